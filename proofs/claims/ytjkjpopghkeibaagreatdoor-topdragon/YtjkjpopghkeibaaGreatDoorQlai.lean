/- A part of it. -/
import Derived.Test.YtjkjpopghkeibaaGreatDoorQlag
import Derived.Deep.AppendLies
set_option maxRecDepth 100000
set_option maxHeartbeats 40000000
namespace Go.Proofs.YtjkjpopghkeibaaGreatDoor
open Go.RowKit Go.ChangeMaps
variable {w w':World} {L l:List T3} {B b base c d f g i m n r:Nat} {t u:T3} {v:Value} {e:E4} {row:Option Nat} {a:E4→Bool} {j k p q s x y:Int}
def gix (l:List T3) (e:E4):List Int:=((List.range l.length).filter fun i=>hasT (l.getD i (0,0,0)) e).map fun (i:Nat)=>(i:Int)
theorem gix_nil (e:E4):gix [] e=[]:=rfl
theorem gix_snoc (l:List T3) (t:T3) (e:E4):gix (l ++ [t]) e=gix l e ++ if hasT t e=true then [(l.length:Int)] else []:=by
 unfold gix;rw [List.length_append,List.length_singleton,List.range_succ,List.filter_append,List.map_append];congr 1
 ·congr 1
  apply List.filter_congr;intro i hi;have a:i<l.length:=by simpa using hi
  simp [a,List.getElem_append_left,Nat.lt_succ_of_lt a]
 ·have e1:(l ++ [t]).getD l.length (0,0,0)=t:=ξ
  cases h:hasT t e
  ·simp [h]
  ·simp [h]
theorem gix_len (l:List T3) (e:E4):(gix l e).length≤l.length:=by
 unfold gix;rw [List.length_map];exact Nt (List.length_filter_le _ _) ξ
theorem gix_mem:j∈gix l e↔∃ i:Nat,∃ h:i<l.length,j=(i:Int)∧hasT l[i] e=true:=by
 unfold gix;simp only [List.mem_map,List.mem_filter,List.mem_range];constructor
 ·rintro ⟨i,⟨hi,a⟩,rfl⟩;exact ⟨i,hi,rfl,by simpa [hi] using a⟩
 ·rintro ⟨i,hi,rfl,a⟩;exact ⟨i,⟨hi,by simpa [hi] using a⟩,rfl⟩
def GP (w:World) (base ra:Nat) (vt:Value) (G:E4→List Int):Prop :=
 ∃ ls clock,EM w ra ls clock∧Good ls clock∧(∀ e,lk ls e=none→G e=[]) ∧
  (∀ e v,lk ls e=some v→w.ownsRow base 3 1 v (G e).length ((G e).map (Value.int .i64))∧G e≠[]∧(vt.ownBlock=none∨v.ownBlock≠vt.ownBlock)) ∧
  (∀ e e' v v',e≠e'→lk ls e=some v→lk ls e'=some v'→v.ownBlock≠v'.ownBlock)
theorem Ym {e:TypeId} {size:Nat} {c:List Value} (h:w.ownsRow base e size v n c) (d:0<n):∃ g,v.ownBlock=some g∧base≤g∧g<w.heap.size:=by
 rcases h.2 with ⟨rfl,h0⟩ | ⟨g,a,b,rfl,h2,h3,h4⟩
 ·omega
 ·refine ⟨g,δ2,h2, ?_⟩;exact (Array.getElem?_eq_some_iff.1 h3).1
theorem Vr {e:TypeId} {size:Nat} {a:List Value} (h:w.ownsRow base e size v n a):∀ g,v.ownBlock=some g→base≤g∧g<w.heap.size:=fun g hg=>h.lt g hg
theorem EM.lt {ls:List (E4×Value×Nat)} (h:EM w r ls c):r<w.heap.size:=(Array.getElem?_eq_some_iff.1 h).1
theorem EM.grown {ls:List (E4×Value×Nat)} (h:EM w r ls c) (hg:w.grownBy w' row) (a:some r≠row):EM w' r ls c:=(hg.block r h.lt a).trans h
theorem Qy {v:World} (h:Bl w v):w.grownBy v none:=⟨h.os,h.tape,h.output,h.size,fun k a _=>h.block k a⟩
theorem GP.kept {d:Value} {G:E4→List Int} (h:GP w base b d G) (a:Bl w w'):GP w' base b d G:=by
 obtain ⟨ls,c,h1,h2,h3,h4,h5⟩:=h;refine ⟨ls,c,h1.grown (Qy a) ξ,h2,h3,fun e v g=>?_,h5⟩;obtain ⟨a1,f,a3⟩:=h4 e v g;exact ⟨Qj a1 a,f,a3⟩
theorem GP.other {d vt':Value} {G:E4→List Int} (h:GP w base i d G) (n:i<base) (hg:w.grownBy w' d.ownBlock) (f:∀ g,d.ownBlock=some g→base≤g) (b:vt'.ownBlock=d.ownBlock∨vt'.ownBlock=some w.heap.size):GP w' base i vt' G:=by
 obtain ⟨ls,c,h1,h2,h3,h4,h5⟩:=h;refine ⟨ls,c,h1.grown hg (fun e=>by have:=f _ e.symm;omega),h2,h3,fun e v k=>?_,h5⟩;obtain ⟨a1,j,a3⟩:=h4 e v k;obtain ⟨g,a,l,m⟩:=Ym a1 (List.length_pos_iff.2 j);refine ⟨a1.kept hg ?_,j, ?_⟩
 ·rcases a3 with a3 | a3
  ·rw [a,a3];exact Or.inr ξ
  ·exact Or.inr a3
 ·rcases b with b | b
  ·rw [b];exact a3
  ·rw [b,a];refine Or.inr (fun e=>?_);simp at e;omega
theorem zero70 (w:World):(zeroValue 22).run Tryz.prog w=.ok SN w:=η
theorem GP.entry {l:Nat} {L:Value} {G:E4→List Int} (h:GP w base l L G) (V:l<base) (O:∀ g,L.ownBlock=some g→g<w.heap.size) (e:E4) (n:Int) :
  ∃ v0 K W2,(Instr.mapEntry 56 (.map (some l)) (ek e)).run Tryz.prog w=.ok (.tuple #[v0,I K]) W2∧w.grownBy W2 (some l)∧W2.heap.size=w.heap.size∧W2.ownsRow base 3 1 v0 (G e).length ((G e).map (Value.int .i64)) ∧
   ∀ v' r,W2.grownBy r v0.ownBlock→r.ownsRow base 3 1 v' ((G e).length+1) ((G e).map (Value.int .i64) ++ [I n])→(v'.ownBlock=v0.ownBlock∨v'.ownBlock=some W2.heap.size) →
    ∃ W4,(Instr.entryStore 56 (.map (some l)) (I K) v').run Tryz.prog r=.ok () W4∧r.grownBy W4 (some l)∧GP W4 base l L (fun j=>if j=e then G e ++ [n] else G j):=by
 obtain ⟨ls,c,h1,h2,h3,h4,h5⟩:=h;obtain ⟨K,k,c1,A,N⟩:=entry27 Tryz.underlying56 zero70 h1 h2 e;have M:=h1;unfold EM at M;have x:=Yf M (.map (k.map toE).toArray c1)
 have o:∀ {W:World} {v:Value} {n:Nat} {R:List Value},W.ownsRow base 3 1 v n R→v.ownBlock=none∨v.ownBlock≠some l:=fun {W v n R} U=>by
  cases H:v.ownBlock with
  | none=>exact Or.inl rfl
  | some g =>
   refine Or.inr (fun e1=>?_);have:=(U.lt g H).1;simp at e1;omega
 have C:(setBlock w l (.map (k.map toE).toArray c1)).ownsRow base 3 1 ((lk ls e).getD SN) (G e).length ((G e).map (Value.int .i64)):=by
  cases f:lk ls e with
  | none =>
   rw [h3 e f];exact World.ownsRow_nil _ _ _ _
  | some v =>
   have a:=(h4 e v f).1;exact a.kept x (o a)
 have B:(setBlock w l (.map (k.map toE).toArray c1)).heap.size=w.heap.size:=by simp [setBlock]
 refine ⟨_,(K:Int),_,A,x,B,C,fun v' r z p s=>?_⟩;obtain ⟨D,P,T,F,_,g3⟩:=N v'
 have t:EM r l k c1:=by
  have e0:EM (setBlock w l (.map (k.map toE).toArray c1)) l k c1:=heap_setBlock_same M _;refine e0.grown z ?_;rcases o C with e1 | e1
  ·rw [e1];simp
  ·exact fun e2=>e1 e2.symm
 have q:=Yf t (.map (D.map toE).toArray P);refine ⟨_,g3 r t,q,D,P,heap_setBlock_same t _,T,fun j b=>?_,fun j v b=>?_,fun j J v Q y b d=>?_⟩
 ·rw [F j] at b;by_cases e1:j=e
  ·rw [if_pos e1] at b
   cases b
  ·rw [if_neg e1] at b;dsimp only;rw [if_neg e1];exact h3 j b
 ·rw [F j] at b;by_cases e1:j=e
  ·dsimp only;rw [if_pos e1] at b ⊢;simp at b;subst b;refine ⟨?_,ξ, ?_⟩
   ·have:=p.kept q (o p);simpa using this
   ·rcases s with f | f
    ·cases hlk:lk ls e with
     | none =>
      rw [hlk] at f;have:v'.ownBlock=none:=by rw [f];rfl
      obtain ⟨g,hg,_⟩:=Ym p γ;rw [hg] at this
      cases this
     | some v =>
      rw [hlk] at f;rw [f];exact (h4 e v hlk).2.2
    ·rw [f]
     cases hvb:L.ownBlock with
     | none=>exact Or.inl rfl
     | some g =>
      have:=O g hvb;refine Or.inr (fun e2=>?_);simp at e2;omega
  ·dsimp only;rw [if_neg e1] at b ⊢;obtain ⟨a1,E,a3⟩:=h4 j v b;refine ⟨?_,E,a3⟩;have b1:=a1.kept x (o a1)
   have b2:r.ownsRow base 3 1 v (G j).length ((G j).map (Value.int .i64)):=by
    refine b1.kept z ?_
    cases hlk:lk ls e with
    | none =>
     obtain ⟨g,hg,_⟩:=Ym a1 (List.length_pos_iff.2 E);rw [hg];exact Or.inr δ2
    | some v0=>exact Or.inr (h5 j e v v0 e1 b hlk)
   exact b2.kept q (o b2)
 ·rw [F j] at b;rw [F J] at d
  have m:∀ i u,i≠e→lk ls i=some u→u.ownBlock≠v'.ownBlock:=fun i u hi H=>by
   obtain ⟨a1,E,_⟩:=h4 i u H;obtain ⟨g,hg,_,q⟩:=Ym a1 (List.length_pos_iff.2 E);rcases s with f | f
   ·cases hlk:lk ls e with
    | none =>
     rw [hlk] at f;rw [f,hg];simp [Value.ownBlock]
    | some v0 =>
     rw [hlk] at f;rw [f];exact h5 i e u v0 hi H hlk
   ·rw [f,hg,B];intro e2;simp at e2;omega
  by_cases e1:j=e
  ·rw [if_pos e1] at b;rw [if_neg (fun e2=>y (e1.trans e2.symm))] at d;simp at b;subst b;exact fun e2=>m J Q (fun e3=>y (e1.trans e3.symm)) d e2.symm
  ·rw [if_neg e1] at b;by_cases e3:J=e
   ·rw [if_pos e3] at d;simp at d;subst d;exact m j v e1 b
   ·rw [if_neg e3] at d;exact h5 j J v Q y b d
def Pc (w:World) (pb ra rk:Nat) (vt:Value):Prop :=
 At w pb 0 vt∧At w pb 1 (.map (some ra))∧At w pb 2 (.map (some rk))∧Fn w pb 0
theorem Pc.lt {a:Nat} {d:Value} (h:Pc w a b c d):a<w.heap.size:=bk h.1
theorem Pc.grown {e:Nat} {f:Value} (h:Pc w c d e f) (hg:w.grownBy w' row) (b:some c≠row):Pc w' c d e f :=
 ⟨hg.cell h.1 b,hg.cell h.2.1 b,hg.cell h.2.2.1 b,(Fo (a:=⟨c,0,none⟩) (hg.block c h.lt b)).trans h.2.2.2⟩
theorem Pc.apart {e:Nat} {f:Value} {ls:List (E4×Value×Nat)} (h:Pc w b d e f) (a:EM w r ls c):b≠r:=by
 rintro rfl;have:=h.1;unfold EM at a;simp [World.cell?,a] at this
def PP (w0 w:World) (base pb ra rk:Nat) (vt:Value) (L:List T3) (G:E4→List Int):Prop :=
 Pc w pb ra rk vt∧w.ownsRow base 39 3 vt L.length (flatV L)∧GP w base ra vt G∧(∃ c,EM w rk [] c∧Good [] c)∧(w0.heap.size≤pb∧pb<base∧w0.heap.size≤ra∧ra<base∧w0.heap.size≤rk∧rk<base∧ra≠rk∧base≤w.heap.size)∧Bl w0 w
theorem PP.kept {i:World} {e:Nat} {g:Value} {G:E4→List Int} (h:PP i w base d e f g L G) (a:Bl w w'):PP i w' base d e f g L G:=by
 obtain ⟨h1,h2,h3,⟨c,h4,b⟩,⟨a1,j,a3,a4,a5,k,l,m⟩,h6⟩:=h;exact ⟨h1.grown (Qy a) ξ,Qj h2 a,h3.kept a,⟨c,h4.grown (Qy a) ξ,b⟩,⟨a1,j,a3,a4,a5,k,l,Nt m a.size⟩,Qc h6 a⟩
theorem PP.entry {K wr:World} {z H:Nat} {p:Value} {G:E4→List Int} (h:PP K wr base z i H p L G) (P:Bl wr w) (e:E4) (n:Int) :
  ∃ v0 A l,(Instr.mapEntry 56 (.map (some i)) (ek e)).run Tryz.prog w=.ok (.tuple #[v0,I A]) l∧w.grownBy l (some i)∧l.heap.size=w.heap.size∧l.ownsRow base 3 1 v0 (G e).length ((G e).map (Value.int .i64))∧(∀ g,v0.ownBlock=some g→base≤g∧g<wr.heap.size) ∧
   ∀ v' t,l.grownBy t v0.ownBlock→t.ownsRow base 3 1 v' ((G e).length+1) ((G e).map (Value.int .i64) ++ [I n])→(v'.ownBlock=v0.ownBlock∨v'.ownBlock=some l.heap.size) →
    ∃ x,(Instr.entryStore 56 (.map (some i)) (I A) v').run Tryz.prog t=.ok () x∧t.grownBy x (some i)∧PP K x base z i H p L (fun j=>if j=e then G e ++ [n] else G j):=by
 have m:=h.kept P;obtain ⟨h1,h2,h3,⟨c,h4,D⟩,⟨a1,M,a3,a4,a5,N,B,Q⟩,h6⟩:=m
 have a:∃ ls c,EM w i ls c:=by
  obtain ⟨ls,c,q,_⟩:=h3;exact ⟨ls,c,q⟩
 obtain ⟨U,Z,a⟩:=a;obtain ⟨v0,A,l,r1,r2,r3,V,W⟩:=h3.entry a4 (fun g hg=>(Vr h2 g hg).2) e n
 have f:∀ g,v0.ownBlock=some g→base≤g∧g<wr.heap.size:=by
  obtain ⟨q1,q2,⟨ls,O,b1,b2,b3,b4,R⟩,q3⟩:=h;have C:EM w i ls O:=b1.grown (Qy P) ξ;obtain ⟨J,F,c1,d,_⟩:=entry27 Tryz.underlying56 zero70 C b2 e;rw [d] at r1;simp only [Result.ok.injEq,Value.tuple.injEq,Array.mk.injEq,List.cons.injEq] at r1;obtain ⟨⟨rfl,_⟩,_⟩:=r1;intro g hg
  cases hl:lk ls e with
  | none =>
   rw [hl] at hg;simp [Value.ownBlock] at hg
  | some v =>
   rw [hl] at hg;exact Vr (b4 e v hl).1 g hg
 refine ⟨v0,A,l,r1,r2,r3,V,f,fun v' t r T g3=>?_⟩;obtain ⟨x,X,u,Y⟩:=W v' t r T g3
 have o:∀ k:Nat,k<base→some k≠v0.ownBlock:=fun k m e1=>by
  have:=(f k e1.symm).1;omega
 have b:p.ownBlock=none∨p.ownBlock≠some i:=by
  cases hu:p.ownBlock with
  | none=>exact Or.inl rfl
  | some g =>
   refine Or.inr (fun e1=>?_);have:=(Vr h2 g hu).1;simp at e1;omega
 have E:p.ownBlock=none∨p.ownBlock≠v0.ownBlock:=by
  obtain ⟨ls,O,b1,b2,b3,b4,R⟩:=h3;obtain ⟨J,F,c1,d,_⟩:=entry27 Tryz.underlying56 zero70 b1 b2 e;rw [d] at r1;simp only [Result.ok.injEq,Value.tuple.injEq,Array.mk.injEq,List.cons.injEq] at r1;obtain ⟨⟨rfl,_⟩,_⟩:=r1
  cases hl:lk ls e with
  | none =>
   cases hu:p.ownBlock with
   | none=>exact Or.inl rfl
   | some g=>exact Or.inr δ2
  | some v =>
   rcases (b4 e v hl).2.2 with q | q
   ·exact Or.inl q
   ·exact Or.inr (fun e1=>q e1.symm)
 have y:some z≠some i:=fun e1=>h1.apart a (by simpa using e1);refine ⟨x,X,u,((h1.grown r2 y).grown r (o z M)).grown u y,((h2.kept r2 b).kept r E).kept u b,Y,⟨c,((h4.grown r2 (fun e1=>B (by simp at e1;exact e1.symm))).grown r (o H N)).grown u (fun e1=>B (by simp at e1;exact e1.symm)),D⟩,⟨a1,M,a3,a4,a5,N,B,Nt Q (Nt r2.size (Nt r.size u.size))⟩, ?_⟩;have s:K.heap.size≤w.heap.size:=h6.size;have k1:=h6.grown r2 s (fun k m=>by simp at m;omega);have k2:=k1.grown r (Nt s r2.size) (fun k m=>by have:=(f k m).1;omega);exact k2.grown u (Nt s (Nt r2.size r.size)) (fun k m=>by simp at m;omega)
theorem PP.pushed {F wr l:World} {s a:Nat} {u:Value} {G:E4→List Int} (h:PP F wr base b r s u L G) (m:Bl wr w) (hg:w.grownBy l u.ownBlock)
  (f:l.ownsRow base 39 3 (.slice (Az g) (L.length+1) a) (L.length+1) (flatV L ++ [I t.1,I t.2.1,I t.2.2])) (Q:u.ownBlock=some g∨g=w.heap.size) :
  PP F (l.setCell ⟨b,0,none⟩ (.slice (Az g) (L.length+1) a)) base b r s (.slice (Az g) (L.length+1) a) (L ++ [t]) G:=by
 obtain ⟨h1,h2,h3,⟨c,h4,x⟩,⟨a1,B,a3,a4,a5,C,H,J⟩,h6⟩:=h.kept m
 have i:∀ k:Nat,k<base→some k≠u.ownBlock:=fun k n e1=>by
  have:=(Vr h2 k e1.symm).1;omega
 have j:(Value.slice (Az g) (L.length+1) a).ownBlock=some g:=rfl;have o:=h1.grown hg (i b B)
 have d:∃ ls c,EM w r ls c:=by
  obtain ⟨ls,c,q,_⟩:=h3;exact ⟨ls,c,q⟩
 obtain ⟨R,U,d⟩:=d;have z:b≠r:=h1.apart d;have A:b≠s:=h1.apart h4
 have N:=h3.other (vt':=.slice (Az g) (L.length+1) a) a4 hg (fun g hg=>(Vr h2 g hg).1) (by
  rw [j];rcases Q with q | q
  ·exact Or.inl q.symm
  ·exact Or.inr (by rw [q]))
 have hs:l.grownBy (l.setCell ⟨b,0,none⟩ (.slice (Az g) (L.length+1) a)) (some b):=by
  have m:=Below.setCell (w:=l) (p:=⟨b,0,none⟩) (Below.refl b l) (Nr _) (.slice (Az g) (L.length+1) a)
  exact ⟨m.os,m.tape,m.output,m.size,fun k _ n=>by
   have:k≠b:=fun e1=>n (by rw [e1]);exact Below.heap_setCell _ _ _ k this⟩
 have P:base≤g:=(Vr f g j).1
 have y:some g≠some b:=fun e1=>by
  simp at e1;omega
 refine ⟨⟨?_, ?_, ?_, ?_⟩, ?_, ?_,⟨c,(h4.grown hg (i s C)).grown hs (fun e1=>A (by simpa using e1.symm)),x⟩,⟨a1,B,a3,a4,a5,C,H,Nt J (Nt hg.size hs.size)⟩, ?_⟩
 ·exact Cs _ _ _ o.1
 ·exact (Co _ _ _ _ ξ).trans o.2.1
 ·exact (Co _ _ _ _ ξ).trans o.2.2.1
 ·exact (Fz _ _ _ _).trans o.2.2.2
 ·rw [List.length_append,List.length_singleton,Xr];exact f.kept hs (Or.inr (by rw [j];exact y))
 ·obtain ⟨ls,M,b1,b2,b3,b4,K⟩:=N;refine ⟨ls,M,b1.grown hs (fun e1=>z (by simpa using e1.symm)),b2,b3,fun e v O=>?_,K⟩;obtain ⟨D,E,T⟩:=b4 e v O;refine ⟨D.kept hs ?_,E,T⟩;obtain ⟨V,e1,e2,_⟩:=Ym D (List.length_pos_iff.2 E);rw [e1];exact Or.inr (fun e3=>by simp at e3;omega)
 ·have k1:=h6.grown hg h6.size (fun k n=>by have:=(Vr h2 k n).1;omega);exact k1.grown hs (Nt h6.size hg.size) (fun k n=>by simp at n;omega)
def AdjC (cr:E4→Bool) (t u:T3):Prop:=u≠t∧∃ e,hasT t e=true∧hasT u e=true∧cr e=true
theorem AdjC.symm {b:E4→Bool} (h:AdjC b t u):AdjC b u t:=⟨fun e=>h.1 e.symm,h.2.imp fun _ a=>⟨a.2.1,a.1,a.2.2⟩⟩
def ReachC (cr:E4→Bool) (l:List T3) (t u:T3):Prop:=t∈l∧∀ p:T3→Prop,p t→(∀ a b,p a→b∈l→AdjC cr a b→p b)→p u
theorem ReachC.here (h:t∈l):ReachC a l t t:=⟨h,fun _ k _=>k⟩
theorem ReachC.step {v:T3} (h:ReachC a l t u) (hv:v∈l) (b:AdjC a u v):ReachC a l t v:=⟨h.1,fun p k s=>s _ _ (h.2 p k s) hv b⟩
theorem ReachC.ind {motive:∀ u,ReachC a l t u→Prop} (here:∀ h:t∈l,motive t (ReachC.here h))
  (step:∀ {u v} (h:ReachC a l t u) (hv:v∈l) (c:AdjC a u v),motive u h→motive v (ReachC.step h hv c)) (h:ReachC a l t u):motive u h:=by
 obtain ⟨_,m⟩:=h.2 (fun x=>∃ k:ReachC a l t x,motive x k) ⟨ReachC.here h.1,here h.1⟩ (fun _ _ ⟨_,m⟩ d b=>⟨_,step _ d b m⟩);exact m
theorem ReachC.mem (h:ReachC a l t u):t∈l∧u∈l:=by
 induction h using ReachC.ind with
 | here h=>exact ⟨h,h⟩
 | step _ hv _ ih=>exact ⟨ih.1,hv⟩
theorem ReachC.trans {v:T3} (h:ReachC a l t u) (k:ReachC a l u v):ReachC a l t v:=by
 induction k using ReachC.ind with
 | here _=>exact h
 | step _ hv ha ih=>exact ih.step hv ha
theorem ReachC.symm (h:ReachC a l t u):ReachC a l u t:=by
 induction h using ReachC.ind with
 | here h=>exact .here h
 | step h hv ha ih=>exact ((ReachC.here hv).step h.mem.2 ha.symm).trans ih
theorem reach_all:ReachC (fun _=>true) l t u↔Reach l t u:=by
 constructor
 ·intro h;induction h using ReachC.ind with
  | here h=>exact .here h
  | step _ hv ha ih=>exact ih.step hv ⟨ha.1,ha.2.imp fun _ a=>⟨a.1,a.2.1⟩⟩
 ·intro h;induction h using Reach.ind with
  | here h=>exact .here h
  | step _ hv ha ih=>exact ih.step hv ⟨ha.1,ha.2.imp fun _ a=>⟨a.1,a.2,rfl⟩⟩
def lab (part:Nat→Int) (num:Int) (R:List Nat):Nat→Int:=fun i=>if i∈R then num else part i
def Sp (cr:E4→Bool) (L:List T3) (part:Nat→Int) (f:Nat) (R:List Nat):Prop :=
 f∈R∧R.Nodup∧∀ i∈R,∃ h:i<L.length,part i<0∧∃ hf:f<L.length,ReachC cr L L[f] L[i]
def DoneE (L:List T3) (part:Nat→Int) (R:List Nat) (e:E4):Prop := ∀ j (hj:j<L.length),hasT L[j] e=true→j∈R∨0≤part j
def DoneT (cr:E4→Bool) (L:List T3) (part:Nat→Int) (R:List Nat) (t:T3) (k:Nat):Prop := ∀ k',k'<k→cr (edg t k')=true→DoneE L part R (edg t k')
theorem DoneE.mono {a:Nat→Int} {R b:List Nat} (h:DoneE L a R e) (hs:∀ i∈R,i∈b):DoneE L a b e:=fun j c d=>(h j c d).imp (hs j) id
theorem DoneT.mono {c:E4→Bool} {a:Nat→Int} {R b:List Nat} {k:Nat} (h:DoneT c L a R t k) (hs:∀ i∈R,i∈b):DoneT c L a b t k:=fun f e d=>(h f e d).mono hs
theorem DoneT.step {b:E4→Bool} {a:Nat→Int} {R:List Nat} {k:Nat} (h:DoneT b L a R t k) (f:b (edg t k)=true→DoneE L a R (edg t k)):DoneT b L a R t (k+1):=fun d g c=>by
 by_cases e:d=k
 ·subst e;exact f c
 ·exact h d γ c
theorem erase_len {R:List Nat} (n:Nat) (_hn:R.Nodup):R.length≤(R.erase n).length+1:=by
 by_cases h:n∈R
 ·rw [List.length_erase_of_mem h];omega
 ·rw [List.erase_of_not_mem h];omega
theorem Gz:∀ (n:Nat) (R:List Nat),R.Nodup→(∀ i∈R,i<n)→R.length≤n
 | 0,R,_,h=>by
  cases R with
  | nil=>simp
  | cons a r=>exact absurd (h a ξ) γ
 | n+1,R,hn,h=>by
  have h1:=Gz n (R.erase n) (hn.erase n) (fun i hi=>by
   have h2:=h i (List.mem_of_mem_erase hi)
   have h3:i≠n:=fun e=>by
    subst e;exact (List.Nodup.not_mem_erase hn) hi
   omega)
  have:=erase_len n hn;omega
theorem Sp.len {b:E4→Bool} {a:Nat→Int} {R:List Nat} (h:Sp b L a f R):R.length≤L.length:=Gz _ _ h.2.1 (fun i hi=>(h.2.2 i hi).1)
theorem Sp.found {l:E4→Bool} {c:Nat→Int} {R:List Nat} (h:Sp l L c f R) (n:L.Nodup) {j:Nat} (hi:i∈R) (m:j<L.length) (p:j ∉ R) (hp:c j<0) (r:l e=true) (h1:∀ hi':i<L.length,hasT L[i] e=true) (h2:hasT L[j] e=true):Sp l L c f (R ++ [j]):=by
 obtain ⟨g,t,s,hr⟩:=h.2.2 i hi;refine ⟨List.mem_append_left _ h.1, ?_,fun k d=>?_⟩
 ·rw [List.nodup_append];refine ⟨h.2.1,ξ,fun a q b o=>?_⟩;simp at o;subst o;exact fun e=>p (e ▸ q)
 ·rcases List.mem_append.1 d with d | d
  ·exact h.2.2 k d
  ·simp at d;subst d;refine ⟨m,hp,s,hr.step (Lm m) ⟨fun e1=>?_,e,h1 g,h2,r⟩⟩;have:=Jj n m g e1;exact p (this ▸ hi)
theorem lab_found (a:Nat→Int) (b:Int) (R:List Nat) (j:Nat):lab a b (R ++ [j])=fun i=>if i=j then b else lab a b R i:=by
 funext i
 unfold lab;by_cases e:i=j
 ·simp [e]
 ·simp [e]
def ZRow (w:World) (g n:Nat) (f:Nat→Int):Prop := ∀ i,i<n→At w g i (I (f i))∧Fn w g i
theorem ZRow.grown {f:Nat→Int} (h:ZRow w g n f) (hg:w.grownBy w' row) (b:some g≠row):ZRow w' g n f:=fun i hi =>
 ⟨hg.cell (h i hi).1 b,(Fo (a:=⟨g,i,none⟩) (hg.block g (bk (h i hi).1) b)).trans (h i hi).2⟩
theorem ZRow.kept {f:Nat→Int} (h:ZRow w g n f) (a:Bl w w'):ZRow w' g n f:=h.grown (Qy a) ξ
theorem ZRow.set {f:Nat→Int} (h:ZRow w g n f) (v:Int) (hi:i<n):ZRow (w.setCell ⟨g,i,none⟩ (I v)) g n (fun j=>if j=i then v else f j):=fun j a=>by
 refine ⟨?_,by (try simp only [I,Fn]);rw [Fz];exact (h j a).2⟩;show World.cell? _ _=_
 by_cases e:j=i
 ·subst e;(try simp only [I]);rw [Cs _ _ _ (h j a).1]
  simp
 ·(try simp only [I]);rw [Co _ _ _ _ π]
  (try simp only [At,I,Fn,Az,Ad]);rw [(h j a).1]
  simp [e]
def PA (wE:World) (ad:Option Addr) (ra:Nat) (L:List T3):Prop :=
 TRow wE ad L∧∀ e,∃ a cap,Row wE a (gix L e)∧∀ wx:World,Bl wE wx→(Instr.lookup 56 (.map (some ra)) (ek e) false).run Tryz.prog wx=.ok (.slice a (gix L e).length cap) wx
theorem PP.pa {p:World} {k o l:Nat} {j:Option Addr} (h:PP p w base n k o (.slice j L.length l) L (gix L)):PA w j k L:=by
 obtain ⟨h1,h2,⟨ls,c,b1,b2,b3,b4,r⟩,h4⟩:=h;refine ⟨?_,fun e=>?_⟩
 ·obtain ⟨a,d,e,hT⟩:=Xc h2;simp only [Value.slice.injEq] at e;rw [e.1];exact hT
 ·cases hl:lk ls e with
  | none =>
   refine ⟨none,0,by rw [b3 e hl];intro i hi;simp at hi,fun q f=>?_⟩;have:=lookup27 Tryz.underlying56 zero70 (b1.grown (Qy f) ξ) b2 e;rw [hl] at this;rw [b3 e hl];exact this
  | some v =>
   obtain ⟨d1,d2,d3⟩:=b4 e v hl
   obtain ⟨b,off,d,hv,hr⟩:∃ b off d,v=.slice (Ad b off) (gix L e).length d∧Row w (Ad b off) (gix L e):=by
    rcases d1.2 with ⟨rfl,h0⟩ | ⟨g,d,m,rfl,_⟩
    ·exact absurd (List.length_eq_zero_iff.1 h0) d2
    ·refine ⟨g,0,d,rfl,fun i hi=>⟨g,0,rfl, ?_⟩⟩;have:=d1.cellAt i γ;rw [Nat.zero_add];exact this.trans (by simp [hi])
   refine ⟨Ad b off,d,hr,fun q f=>?_⟩;have:=lookup27 Tryz.underlying56 zero70 (b1.grown (Qy f) ξ) b2 e;rw [hl,hv] at this;exact this
theorem PA.kept {d:Option Addr} (h:PA w d f L) (c:Bl w w'):PA w' d f L :=
 ⟨h.1.kept c,fun e=>by
  obtain ⟨a,b,h1,h2⟩:=h.2 e;exact ⟨a,b,h1.kept c,fun i g=>h2 i (Qc c g)⟩⟩
theorem edg_ne (a:Kd t):edg t 0≠edg t 1∧edg t 0≠edg t 2∧edg t 1≠edg t 2:=by
 obtain ⟨x,y,k⟩:=t
 have b:k=0∨k=1∨k=2∨k=3:=by
  have h1:=a.1;have h2:=a.2;simp only at h1 h2;omega
 have o0:=Jc (x,y,k) 0;have q:∀ i,i<3→edg (x,y,k) i=if i=0 then (ue0 x y k,ue1 x y k,ue2 x y k,ue3 x y k) else if i=1 then (ue4 x y k,ue5 x y k,ue6 x y k,ue7 x y k) else (ue8 x y k,ue9 x y k,ue10 x y k,ue11 x y k):=fun i _=>rfl;have r0:e0 x y k (ue0 x y k) (ue1 x y k) (ue2 x y k) (ue3 x y k)=true:=by simp [e0,sameB]
 have r1:e1 x y k (ue4 x y k) (ue5 x y k) (ue6 x y k) (ue7 x y k)=true:=by simp [e1,sameB]
 have r2:e2 x y k (ue8 x y k) (ue9 x y k) (ue10 x y k) (ue11 x y k)=true:=by simp [e2,sameB]
 rw [q 0 γ,q 1 γ,q 2 γ];simp only [if_pos,Nat.one_ne_zero,show ¬ (2:Nat)=0 by omega,show ¬ (2:Nat)=1 by omega,if_false,ne_eq,Prod.mk.injEq];rcases b with rfl | rfl | rfl | rfl <;> simp only [Zt,Zs,Zp,Zo,Zn,Zm,Zl,Zk,Zj,Zi,Zh,Zg] at r0 r1 r2 <;> omega
def Gi (L:List T3) (t:T3) (i:Nat):E4→List Int:=fun e =>
 gix L e ++ if (0<i∧e=edg t 0)∨(1<i∧e=edg t 1)∨(2<i∧e=edg t 2) then [(L.length:Int)] else []
theorem Gi_zero (L:List T3) (t:T3):Gi L t 0=gix L:=by
 funext e
 simp [Gi]
theorem Gi_three (L:List T3) (t:T3):Gi L t 3=gix (L ++ [t]):=by
 funext e
 rw [gix_snoc];unfold Gi;by_cases h:hasT t e=true
 ·obtain ⟨i,hi,a⟩:=Vw h;have:i=0∨i=1∨i=2:=γ;rw [if_pos h,if_pos];rcases this with rfl | rfl | rfl
  ·exact Or.inl ⟨γ,a.symm⟩
  ·exact Or.inr (Or.inl ⟨γ,a.symm⟩)
  ·exact Or.inr (Or.inr ⟨γ,a.symm⟩)
 ·rw [if_neg h,if_neg];rintro (⟨_,e1⟩ | ⟨_,e1⟩ | ⟨_,e1⟩) <;> exact h (by rw [e1];exact Jc _ _)
theorem Gi_len (L:List T3) (t:T3) (i:Nat) (e:E4):(Gi L t i e).length≤L.length+1:=by
 unfold Gi;rw [List.length_append];have:=gix_len L e;split <;> simp <;> omega
theorem Gi_step (L:List T3) (a:Kd t) (i:Nat) (hi:i<3):(fun j=>if j=edg t i then Gi L t i (edg t i) ++ [(L.length:Int)] else Gi L t i j)=Gi L t (i+1):=by
 obtain ⟨n1,n2,n3⟩:=edg_ne a;funext e
 have:i=0∨i=1∨i=2:=γ;rcases this with rfl | rfl | rfl
 ·by_cases h:e=edg t 0 <;> simp [Gi,h]
 ·by_cases h:e=edg t 1
  ·subst h;simp [Gi,n1.symm]
  ·simp [Gi,h]
 ·by_cases h:e=edg t 2
  ·subst h;simp [Gi,n2.symm,n3.symm]
  ·simp [Gi,h]
theorem idx32 (a0 a1 c a3 a4 a5 d e f a9 a b:Int) (w:World) :
  (Instr.index 209 (.agg #[I a0,I a1,I c,I a3,I a4,I a5,I d,I e,I f,I a9,I a,I b]) (I 0)).run Tryz.prog w=.ok (.agg #[I a0,I a1,I c,I a3]) w ∧
  (Instr.index 209 (.agg #[I a0,I a1,I c,I a3,I a4,I a5,I d,I e,I f,I a9,I a,I b]) (I 1)).run Tryz.prog w=.ok (.agg #[I a4,I a5,I d,I e]) w ∧
  (Instr.index 209 (.agg #[I a0,I a1,I c,I a3,I a4,I a5,I d,I e,I f,I a9,I a,I b]) (I 2)).run Tryz.prog w=.ok (.agg #[I f,I a9,I a,I b]) w:=by
 refine ⟨?_, ?_, ?_⟩ <;> kernel_rfl
def TB (w:World) (B:Nat) (x y k:Int):Prop:=w.heap[B]?=some (.cells #[I x,I y,I k] 39)
theorem TB.tr (h:TB w B x y k):Tr w B x y k:=by
 unfold TB at h;simp [Tr,World.cell?,h]
theorem TB.lt (h:TB w B x y k):B<w.heap.size:=(Array.getElem?_eq_some_iff.1 h).1
theorem TB.grown (h:TB w B x y k) (hg:w.grownBy w' row) (a:some B≠row):TB w' B x y k:=(hg.block B h.lt a).trans h
theorem TB.not_row {f:List Value} (h:TB w B x y k) (d:w.ownsRow base 3 1 v n f):some B≠v.ownBlock:=by
 rcases d.2 with ⟨rfl,_⟩ | ⟨g,b,c,rfl,_,a,_⟩
 ·simp [Value.ownBlock]
 ·intro e;obtain rfl:B=g:=by simpa [Value.ownBlock] using e
  unfold TB at h;rw [h] at a;simp at a
theorem TB.ne_map {ls:List (E4×Value×Nat)} (h:TB w B x y k) (a:EM w r ls c):some B≠some r:=by
 intro e;obtain rfl:B=r:=by simpa using e
 unfold EM at a;unfold TB at h;rw [h] at a
 cases a
theorem Yd (v:Value) (h:At w g 0 v):∀ j u,[v][j]?=some u→w.cell? ((⟨g,0,none⟩:Addr).add j)=some u:=by
 intro j u a;match j,a with
 | 0,a=>simp at a;subst a;simpa [Addr.add] using h
theorem Xx (n:Int):∀ u ∈ [I n],u.oneCell'=true:=by
 intro u a;simp at a;subst a;rfl
theorem Uq (x y k:Int):∀ u ∈ [I x,I y,I k],u.oneCell'=true:=by
 intro u a;simp at a;rcases a with rfl | rfl | rfl <;> rfl
theorem add_any (w0:World) (x y k:Int) (base s u rk f:Nat) (R:Option Addr) (L:List T3) (w:World) (h:triB x y k=true) (hs:Steps w0) (hL:L.length≤300) (hp:PP w0 w base s u rk (.slice R L.length f) L (gix L)) :
  Cl 91 #[.pointer (Az s),.agg #[I x,I y,I k]] w fun e w'=>e=.returned (.tuple #[])∧∃ ad' ccap',PP w0 w' base s u rk (.slice ad' (L.length+1) ccap') (L ++ [(x,y,k)]) (gix (L ++ [(x,y,k)])):=by
 have HS:=Hd hs
 have hk:Kd (x,y,k):=by
  have:=h;simp only [triB,decide_eq_true_eq] at this;exact ⟨this.1,this.2.1⟩
 have HK:=Hd hk;obtain ⟨i3,an,ag,ah,ai⟩:=info_parts inf3;have HI:=H4 an ag ah ai;obtain ⟨ar,ae,aa,ab,ac⟩:=info_parts inf23;have Z:=H4 ae aa ab ac;have B:=Hd hp;obtain ⟨vt,au⟩:∃ v,v=Value.slice R L.length f:=⟨_,rfl⟩;clear hs an ag ah ai ae aa ab ac hp hk;go_enter Tryz.func91,Tryz.ntmps91;go_wp2_with (go_at_call 138;refine (Vq _ _ _ _ h (HS.out.kept (Qb B.out.2.2.2.2.2))).mono ?_;rintro e w2 ⟨rfl,hb⟩;have aj:Hid (PP w0 w2 base s u rk (.slice R L.length f) L (gix L)∧TB w2 w.heap.size x y k):=⟨B.out.kept (Qc β1 hb),(hb.block w.heap.size ξ).trans (heap_alloc_new w _)⟩;clear hb)
 go_loopg [8] 3 (fun g s8 wx=>∃ i:Nat,i≤3∧g=3 - i∧s8=I (i:Int)∧PP w0 wx base s u rk (.slice R L.length f) L (Gi L (x,y,k) i)∧TB wx w.heap.size x y k)
 case atStart=>exact ⟨0,γ,rfl,rfl,by rw [Gi_zero];exact aj.out.1,aj.out.2⟩
 case round =>
  clear B aj;obtain ⟨i,hi,rfl,rfl,Y,hQ⟩:=hrel;obtain ⟨x0,x1,x2⟩:=idx32 (ue0 x y k) (ue1 x y k) (ue2 x y k) (ue3 x y k) (ue4 x y k) (ue5 x y k) (ue6 x y k) (ue7 x y k) (ue8 x y k) (ue9 x y k) (ue10 x y k) (ue11 x y k) wr;by_cases h1:i<3
  ·have aq:i=0∨i=1∨i=2:=γ;rcases aq with rfl | rfl | rfl
   ·have B:=Hd Y;have HQ:=Hd hQ;have hk:=HK.out;clear Y hQ;go_wp2;refine Qi (fun d hW0=>?_);have O:Bl wr d:=γ4;have T:=Hd O;have M:=Hd (B.out.kept O);have c0:At d s 0 (.slice R L.length f):=M.out.1.1;have c1:At d s 1 (.map (some u)):=M.out.1.2.1;have c2:At d wr.heap.size 0 (I (ue0 x y k)):=ν;have c3:At d wr.heap.size 1 (I (ue1 x y k)):=ν;have c4:At d wr.heap.size 2 (I (ue2 x y k)):=ν;have c5:At d wr.heap.size 3 (I (ue3 x y k)):=ν;have z1:wr.heap.size+1=d.heap.size:=by rw [hW0];simp
    clear hW0 O;obtain ⟨v0,st,l,H,j,X,G,J,t⟩:=B.out.entry (w:=(d.alloc (.cells #[I (L.length:Int)] 3)).drew) (Qg (Qb T.out)) (edg (x,y,k) 0) (L.length:Int);have a8:(Instr.mapEntry 56 (.map (some u)) (.agg #[I (ue0 x y k),I (ue1 x y k),I (ue2 x y k),I (ue3 x y k)])).run Tryz.prog (d.alloc (.cells #[I (L.length:Int)] 3)).drew=.ok (.tuple #[v0,I st]) l:=H;clear H;have a4:=B.out.2.2.2.2.1
    have E:some s≠some u:=fun e=>by
     obtain ⟨ls,c,q,_⟩:=B.out.2.2.1;exact B.out.1.apart q (by simpa using e)
    have p:some wr.heap.size≠some u:=fun e=>by
     simp at e;omega
    have m0:At l s 0 (.slice R L.length f):=j.cell (w:=(d.alloc (.cells #[I (L.length:Int)] 3)).drew) (Qk c0) (by exact E);have m1:At l s 1 (.map (some u)):=j.cell (w:=(d.alloc (.cells #[I (L.length:Int)] 3)).drew) (Qk c1) (by exact E);have m2:At l wr.heap.size 0 (I (ue0 x y k)):=j.cell (w:=(d.alloc (.cells #[I (L.length:Int)] 3)).drew) (Qk c2) (by exact p);have m3:At l wr.heap.size 1 (I (ue1 x y k)):=j.cell (w:=(d.alloc (.cells #[I (L.length:Int)] 3)).drew) (Qk c3) (by exact p);have m4:At l wr.heap.size 2 (I (ue2 x y k)):=j.cell (w:=(d.alloc (.cells #[I (L.length:Int)] 3)).drew) (Qk c4) (by exact p);have m5:At l wr.heap.size 3 (I (ue3 x y k)):=j.cell (w:=(d.alloc (.cells #[I (L.length:Int)] 3)).drew) (Qk c5) (by exact p);have a7:At l d.heap.size 0 (I (L.length:Int)):=j.cell (w:=(d.alloc (.cells #[I (L.length:Int)] 3)).drew) δ (fun e=>by simp at e;omega);have am:l.heap.size=d.heap.size+1:=by simpa using X
    have z:Hid (base≤l.heap.size∧(Gi L (x,y,k) 0 (edg (x,y,k) 0)).length+1≤1000):=⟨γ,Nat.succ_le_succ (Nt (Gi_len L (x,y,k) 0 _) γ)⟩
    have V:Hid (∀ (r:World),l.grownBy r v0.ownBlock→∀ a v,(a.block=s∨a.block=wr.heap.size)→l.cell? a=some v→r.cell? a=some v):=fun r hg a v ha hc=>hg.cell hc (fun e=>by
     have:=J _ e.symm;rcases ha with ha | ha <;> omega)
    have F:some w.heap.size≠some u:=by
     obtain ⟨ls,c,q,_⟩:=B.out.2.2.1;exact HQ.out.ne_map q
    have W:Hid (TB l w.heap.size x y k):=TB.grown (w:=(d.alloc (.cells #[I (L.length:Int)] 3)).drew) (HQ.out.grown (Qy (Qg (Qb T.out))) ξ) j F;have K:=Hd G
    have U:Hid (∀ g n r,l.grownBy r v0.ownBlock→r.ownsRow base 3 1 (.slice (Az g) ((Gi L (x,y,k) 0 (edg (x,y,k) 0)).length+1) n) ((Gi L (x,y,k) 0 (edg (x,y,k) 0)).length+1) ((Gi L (x,y,k) 0 (edg (x,y,k) 0)).map (Value.int .i64) ++ [I (L.length:Int)])→(v0.ownBlock=some g∨g=l.heap.size) →
     ∃ N,(Instr.entryStore 56 (.map (some u)) (I st) (.slice (Az g) ((Gi L (x,y,k) 0 (edg (x,y,k) 0)).length+1) n)).run Tryz.prog r=.ok () N∧r.grownBy N (some u)∧PP w0 N base s u rk (.slice R L.length f) L (Gi L (x,y,k) (0+1))):=fun g n r q1 q2 q3=>by
     obtain ⟨N,s1,s2,s3⟩:=t (.slice (Az g) ((Gi L (x,y,k) 0 (edg (x,y,k) 0)).length+1) n) r q1 q2 (q3.imp (fun q=>q.symm) (fun q=>by rw [q];rfl));exact ⟨N,s1,s2,Gi_step L hk 0 γ ▸ s3⟩
    clear G t J j X a4 M;obtain ⟨nG,A⟩:∃ m,m=(Gi L (x,y,k) 0 (edg (x,y,k) 0)).length:=⟨_,rfl⟩;obtain ⟨xG,Q⟩:∃ m,m=(Gi L (x,y,k) 0 (edg (x,y,k) 0)).map (Value.int .i64):=⟨_,rfl⟩;rw [← A,← Q] at K;rw [← A] at z;rw [← A,← Q] at U;clear A Q
    go_region_held3 (fun w'=>At w' s 0 (.slice R L.length f)∧At w' s 1 (.map (some u))∧At w' wr.heap.size 0 (I (ue0 x y k))∧At w' wr.heap.size 1 (I (ue1 x y k))∧At w' wr.heap.size 2 (I (ue2 x y k))∧At w' wr.heap.size 3 (I (ue3 x y k)))
     ((first | (refine ⟨?_, ?_, ?_, ?_, ?_, ?_⟩ <;> (first | (with_reducible assumption) | (with_reducible refine Qq ?_;with_reducible assumption) | (with_reducible refine Qq ?_;with_reducible refine Qk ?_;with_reducible assumption) | (refine V.out _ b _ _ ?_ Γ;simp;done) | (refine D.cell (V.out _ b _ _ (by simp;done) Γ) Γ)))))
     (((refine step_append_lies _ Ω (.tmp 16) (.tmp 22) 22 Ω base 3 i3 (I 0) 1 8 Tryz.underlying22 HI.out.1 HI.out.2.1 HI.out.2.2.1 HI.out.2.2.2 rfl ψ v0 nG xG Ω K.out ⟨d.heap.size,0,none⟩ 1 1 [I (L.length:Int)] Ω rfl (Yd _ a7) (Xx _) ψ (by have:=z.out.2;unfold maxLen;omega) (by have:=z.out.2;omega) z.out.1 l.heap.size rfl ?_;intro g n r o b P ak;obtain ⟨N,ao,D,C⟩:=U.out g n r b o P;have a2:=Hd C;have a6:Hid (TB N w.heap.size x y k):=(W.out.grown b (W.out.not_row K.out)).grown D F;clear C o P)))
    go_wp2;go_roundg (3 - (0+1))
    case measure=>omega
    case rel=>exact ⟨0+1,γ,rfl,σ,a2.out,a6.out⟩
   ·have B:=Hd Y;have HQ:=Hd hQ;have hk:=HK.out;clear Y hQ;go_wp2;refine Qi (fun d hW0=>?_);have O:Bl wr d:=γ4;have T:=Hd O;have M:=Hd (B.out.kept O);have c0:At d s 0 (.slice R L.length f):=M.out.1.1;have c1:At d s 1 (.map (some u)):=M.out.1.2.1;have c2:At d wr.heap.size 0 (I (ue4 x y k)):=ν;have c3:At d wr.heap.size 1 (I (ue5 x y k)):=ν;have c4:At d wr.heap.size 2 (I (ue6 x y k)):=ν;have c5:At d wr.heap.size 3 (I (ue7 x y k)):=ν;have z1:wr.heap.size+1=d.heap.size:=by rw [hW0];simp
    clear hW0 O;obtain ⟨v0,st,l,H,j,X,G,J,t⟩:=B.out.entry (w:=(d.alloc (.cells #[I (L.length:Int)] 3)).drew) (Qg (Qb T.out)) (edg (x,y,k) 1) (L.length:Int);have a8:(Instr.mapEntry 56 (.map (some u)) (.agg #[I (ue4 x y k),I (ue5 x y k),I (ue6 x y k),I (ue7 x y k)])).run Tryz.prog (d.alloc (.cells #[I (L.length:Int)] 3)).drew=.ok (.tuple #[v0,I st]) l:=H;clear H;have a4:=B.out.2.2.2.2.1
    have E:some s≠some u:=fun e=>by
     obtain ⟨ls,c,q,_⟩:=B.out.2.2.1;exact B.out.1.apart q (by simpa using e)
    have p:some wr.heap.size≠some u:=fun e=>by
     simp at e;omega
    have m0:At l s 0 (.slice R L.length f):=j.cell (w:=(d.alloc (.cells #[I (L.length:Int)] 3)).drew) (Qk c0) (by exact E);have m1:At l s 1 (.map (some u)):=j.cell (w:=(d.alloc (.cells #[I (L.length:Int)] 3)).drew) (Qk c1) (by exact E);have m2:At l wr.heap.size 0 (I (ue4 x y k)):=j.cell (w:=(d.alloc (.cells #[I (L.length:Int)] 3)).drew) (Qk c2) (by exact p);have m3:At l wr.heap.size 1 (I (ue5 x y k)):=j.cell (w:=(d.alloc (.cells #[I (L.length:Int)] 3)).drew) (Qk c3) (by exact p);have m4:At l wr.heap.size 2 (I (ue6 x y k)):=j.cell (w:=(d.alloc (.cells #[I (L.length:Int)] 3)).drew) (Qk c4) (by exact p);have m5:At l wr.heap.size 3 (I (ue7 x y k)):=j.cell (w:=(d.alloc (.cells #[I (L.length:Int)] 3)).drew) (Qk c5) (by exact p);have a7:At l d.heap.size 0 (I (L.length:Int)):=j.cell (w:=(d.alloc (.cells #[I (L.length:Int)] 3)).drew) δ (fun e=>by simp at e;omega);have am:l.heap.size=d.heap.size+1:=by simpa using X
    have z:Hid (base≤l.heap.size∧(Gi L (x,y,k) 1 (edg (x,y,k) 1)).length+1≤1000):=⟨γ,Nat.succ_le_succ (Nt (Gi_len L (x,y,k) 1 _) γ)⟩
    have V:Hid (∀ (r:World),l.grownBy r v0.ownBlock→∀ a v,(a.block=s∨a.block=wr.heap.size)→l.cell? a=some v→r.cell? a=some v):=fun r hg a v ha hc=>hg.cell hc (fun e=>by
     have:=J _ e.symm;rcases ha with ha | ha <;> omega)
    have F:some w.heap.size≠some u:=by
     obtain ⟨ls,c,q,_⟩:=B.out.2.2.1;exact HQ.out.ne_map q
    have W:Hid (TB l w.heap.size x y k):=TB.grown (w:=(d.alloc (.cells #[I (L.length:Int)] 3)).drew) (HQ.out.grown (Qy (Qg (Qb T.out))) ξ) j F;have K:=Hd G
    have U:Hid (∀ g n r,l.grownBy r v0.ownBlock→r.ownsRow base 3 1 (.slice (Az g) ((Gi L (x,y,k) 1 (edg (x,y,k) 1)).length+1) n) ((Gi L (x,y,k) 1 (edg (x,y,k) 1)).length+1) ((Gi L (x,y,k) 1 (edg (x,y,k) 1)).map (Value.int .i64) ++ [I (L.length:Int)])→(v0.ownBlock=some g∨g=l.heap.size) →
     ∃ N,(Instr.entryStore 56 (.map (some u)) (I st) (.slice (Az g) ((Gi L (x,y,k) 1 (edg (x,y,k) 1)).length+1) n)).run Tryz.prog r=.ok () N∧r.grownBy N (some u)∧PP w0 N base s u rk (.slice R L.length f) L (Gi L (x,y,k) (1+1))):=fun g n r q1 q2 q3=>by
     obtain ⟨N,s1,s2,s3⟩:=t (.slice (Az g) ((Gi L (x,y,k) 1 (edg (x,y,k) 1)).length+1) n) r q1 q2 (q3.imp (fun q=>q.symm) (fun q=>by rw [q];rfl));exact ⟨N,s1,s2,Gi_step L hk 1 γ ▸ s3⟩
    clear G t J j X a4 M;obtain ⟨nG,A⟩:∃ m,m=(Gi L (x,y,k) 1 (edg (x,y,k) 1)).length:=⟨_,rfl⟩;obtain ⟨xG,Q⟩:∃ m,m=(Gi L (x,y,k) 1 (edg (x,y,k) 1)).map (Value.int .i64):=⟨_,rfl⟩;rw [← A,← Q] at K;rw [← A] at z;rw [← A,← Q] at U;clear A Q
    go_region_held3 (fun w'=>At w' s 0 (.slice R L.length f)∧At w' s 1 (.map (some u))∧At w' wr.heap.size 0 (I (ue4 x y k))∧At w' wr.heap.size 1 (I (ue5 x y k))∧At w' wr.heap.size 2 (I (ue6 x y k))∧At w' wr.heap.size 3 (I (ue7 x y k)))
     ((first | (refine ⟨?_, ?_, ?_, ?_, ?_, ?_⟩ <;> (first | (with_reducible assumption) | (with_reducible refine Qq ?_;with_reducible assumption) | (with_reducible refine Qq ?_;with_reducible refine Qk ?_;with_reducible assumption) | (refine V.out _ b _ _ ?_ Γ;simp;done) | (refine D.cell (V.out _ b _ _ (by simp;done) Γ) Γ)))))
     (((refine step_append_lies _ Ω (.tmp 16) (.tmp 22) 22 Ω base 3 i3 (I 0) 1 8 Tryz.underlying22 HI.out.1 HI.out.2.1 HI.out.2.2.1 HI.out.2.2.2 rfl ψ v0 nG xG Ω K.out ⟨d.heap.size,0,none⟩ 1 1 [I (L.length:Int)] Ω rfl (Yd _ a7) (Xx _) ψ (by have:=z.out.2;unfold maxLen;omega) (by have:=z.out.2;omega) z.out.1 l.heap.size rfl ?_;intro g n r o b P ak;obtain ⟨N,ao,D,C⟩:=U.out g n r b o P;have a2:=Hd C;have a6:Hid (TB N w.heap.size x y k):=(W.out.grown b (W.out.not_row K.out)).grown D F;clear C o P)))
    go_wp2;go_roundg (3 - (1+1))
    case measure=>omega
    case rel=>exact ⟨1+1,γ,rfl,σ,a2.out,a6.out⟩
   ·have B:=Hd Y;have HQ:=Hd hQ;have hk:=HK.out;clear Y hQ;go_wp2;refine Qi (fun d hW0=>?_);have O:Bl wr d:=γ4;have T:=Hd O;have M:=Hd (B.out.kept O);have c0:At d s 0 (.slice R L.length f):=M.out.1.1;have c1:At d s 1 (.map (some u)):=M.out.1.2.1;have c2:At d wr.heap.size 0 (I (ue8 x y k)):=ν;have c3:At d wr.heap.size 1 (I (ue9 x y k)):=ν;have c4:At d wr.heap.size 2 (I (ue10 x y k)):=ν;have c5:At d wr.heap.size 3 (I (ue11 x y k)):=ν;have z1:wr.heap.size+1=d.heap.size:=by rw [hW0];simp
    clear hW0 O;obtain ⟨v0,st,l,H,j,X,G,J,t⟩:=B.out.entry (w:=(d.alloc (.cells #[I (L.length:Int)] 3)).drew) (Qg (Qb T.out)) (edg (x,y,k) 2) (L.length:Int);have a8:(Instr.mapEntry 56 (.map (some u)) (.agg #[I (ue8 x y k),I (ue9 x y k),I (ue10 x y k),I (ue11 x y k)])).run Tryz.prog (d.alloc (.cells #[I (L.length:Int)] 3)).drew=.ok (.tuple #[v0,I st]) l:=H;clear H;have a4:=B.out.2.2.2.2.1
    have E:some s≠some u:=fun e=>by
     obtain ⟨ls,c,q,_⟩:=B.out.2.2.1;exact B.out.1.apart q (by simpa using e)
    have p:some wr.heap.size≠some u:=fun e=>by
     simp at e;omega
    have m0:At l s 0 (.slice R L.length f):=j.cell (w:=(d.alloc (.cells #[I (L.length:Int)] 3)).drew) (Qk c0) (by exact E);have m1:At l s 1 (.map (some u)):=j.cell (w:=(d.alloc (.cells #[I (L.length:Int)] 3)).drew) (Qk c1) (by exact E);have m2:At l wr.heap.size 0 (I (ue8 x y k)):=j.cell (w:=(d.alloc (.cells #[I (L.length:Int)] 3)).drew) (Qk c2) (by exact p);have m3:At l wr.heap.size 1 (I (ue9 x y k)):=j.cell (w:=(d.alloc (.cells #[I (L.length:Int)] 3)).drew) (Qk c3) (by exact p);have m4:At l wr.heap.size 2 (I (ue10 x y k)):=j.cell (w:=(d.alloc (.cells #[I (L.length:Int)] 3)).drew) (Qk c4) (by exact p);have m5:At l wr.heap.size 3 (I (ue11 x y k)):=j.cell (w:=(d.alloc (.cells #[I (L.length:Int)] 3)).drew) (Qk c5) (by exact p);have a7:At l d.heap.size 0 (I (L.length:Int)):=j.cell (w:=(d.alloc (.cells #[I (L.length:Int)] 3)).drew) δ (fun e=>by simp at e;omega);have am:l.heap.size=d.heap.size+1:=by simpa using X
    have z:Hid (base≤l.heap.size∧(Gi L (x,y,k) 2 (edg (x,y,k) 2)).length+1≤1000):=⟨γ,Nat.succ_le_succ (Nt (Gi_len L (x,y,k) 2 _) γ)⟩
    have V:Hid (∀ (r:World),l.grownBy r v0.ownBlock→∀ a v,(a.block=s∨a.block=wr.heap.size)→l.cell? a=some v→r.cell? a=some v):=fun r hg a v ha hc=>hg.cell hc (fun e=>by
     have:=J _ e.symm;rcases ha with ha | ha <;> omega)
    have F:some w.heap.size≠some u:=by
     obtain ⟨ls,c,q,_⟩:=B.out.2.2.1;exact HQ.out.ne_map q
    have W:Hid (TB l w.heap.size x y k):=TB.grown (w:=(d.alloc (.cells #[I (L.length:Int)] 3)).drew) (HQ.out.grown (Qy (Qg (Qb T.out))) ξ) j F;have K:=Hd G
    have U:Hid (∀ g n r,l.grownBy r v0.ownBlock→r.ownsRow base 3 1 (.slice (Az g) ((Gi L (x,y,k) 2 (edg (x,y,k) 2)).length+1) n) ((Gi L (x,y,k) 2 (edg (x,y,k) 2)).length+1) ((Gi L (x,y,k) 2 (edg (x,y,k) 2)).map (Value.int .i64) ++ [I (L.length:Int)])→(v0.ownBlock=some g∨g=l.heap.size) →
     ∃ N,(Instr.entryStore 56 (.map (some u)) (I st) (.slice (Az g) ((Gi L (x,y,k) 2 (edg (x,y,k) 2)).length+1) n)).run Tryz.prog r=.ok () N∧r.grownBy N (some u)∧PP w0 N base s u rk (.slice R L.length f) L (Gi L (x,y,k) (2+1))):=fun g n r q1 q2 q3=>by
     obtain ⟨N,s1,s2,s3⟩:=t (.slice (Az g) ((Gi L (x,y,k) 2 (edg (x,y,k) 2)).length+1) n) r q1 q2 (q3.imp (fun q=>q.symm) (fun q=>by rw [q];rfl));exact ⟨N,s1,s2,Gi_step L hk 2 γ ▸ s3⟩
    clear G t J j X a4 M;obtain ⟨nG,A⟩:∃ m,m=(Gi L (x,y,k) 2 (edg (x,y,k) 2)).length:=⟨_,rfl⟩;obtain ⟨xG,Q⟩:∃ m,m=(Gi L (x,y,k) 2 (edg (x,y,k) 2)).map (Value.int .i64):=⟨_,rfl⟩;rw [← A,← Q] at K;rw [← A] at z;rw [← A,← Q] at U;clear A Q
    go_region_held3 (fun w'=>At w' s 0 (.slice R L.length f)∧At w' s 1 (.map (some u))∧At w' wr.heap.size 0 (I (ue8 x y k))∧At w' wr.heap.size 1 (I (ue9 x y k))∧At w' wr.heap.size 2 (I (ue10 x y k))∧At w' wr.heap.size 3 (I (ue11 x y k)))
     ((first | (refine ⟨?_, ?_, ?_, ?_, ?_, ?_⟩ <;> (first | (with_reducible assumption) | (with_reducible refine Qq ?_;with_reducible assumption) | (with_reducible refine Qq ?_;with_reducible refine Qk ?_;with_reducible assumption) | (refine V.out _ b _ _ ?_ Γ;simp;done) | (refine D.cell (V.out _ b _ _ (by simp;done) Γ) Γ)))))
     (((refine step_append_lies _ Ω (.tmp 16) (.tmp 22) 22 Ω base 3 i3 (I 0) 1 8 Tryz.underlying22 HI.out.1 HI.out.2.1 HI.out.2.2.1 HI.out.2.2.2 rfl ψ v0 nG xG Ω K.out ⟨d.heap.size,0,none⟩ 1 1 [I (L.length:Int)] Ω rfl (Yd _ a7) (Xx _) ψ (by have:=z.out.2;unfold maxLen;omega) (by have:=z.out.2;omega) z.out.1 l.heap.size rfl ?_;intro g n r o b P ak;obtain ⟨N,ao,D,C⟩:=U.out g n r b o P;have a2:=Hd C;have a6:Hid (TB N w.heap.size x y k):=(W.out.grown b (W.out.not_row K.out)).grown D F;clear C o P)))
    go_wp2;go_roundg (3 - (2+1))
    case measure=>omega
    case rel=>exact ⟨2+1,γ,rfl,σ,a2.out,a6.out⟩
  ·obtain rfl:i=3:=γ;rw [Gi_three] at Y;have B:=Hd Y;have p0:=Y.1.1;have fz:=Y.1.2.2.2;have zp:=Y.1.lt;have zb:=Hd Y.2.2.2.2.1.2.2.2.2.2.2.2
   have af:Hid (some s≠(Value.slice R L.length f).ownBlock):=fun e=>by
    have:=(Vr Y.2.1 s e.symm).1;have:=Y.2.2.2.2.1.2.1;omega
   obtain ⟨t0,t1,t2⟩:=hQ.tr;have zt:=hQ.lt;clear Y hQ x0 x1 x2;go_wp2;go_region_law ((refine step_append_lies _ Ω (.tmp 31) (.tmp 33) 55 Ω base 39 ar (.agg #[I 0,I 0,I 0]) 3 24 Tryz.underlying55 Z.out.1 Z.out.2.1 Z.out.2.2.1 Z.out.2.2.2 rfl ψ (.slice R L.length f) L.length (flatV L) Ω (Qj B.out.2.1 δ4) ⟨wr.heap.size,0,none⟩ 1 1 [I x,I y,I k] Ω rfl (Xg wr x y k) (Uq x y k) ψ Ξ γ (Nt zb.out ξ) (wr.heap.size+1) ξ ?_;intro g n r o b P ak;have q0:At r s 0 (.slice R L.length f):=b.cell (by first | exact Qq (Qk p0) | exact Qk (Qq p0)) af.out;have f0:Fn r s 0:=(Fo (a:=⟨s,0,none⟩) (b.block s ω af.out)).trans (by simp [go_sem,fz,zp]);have ap:Hid (PP w0 (r.setCell ⟨s,0,none⟩ (.slice (Az g) (L.length+1) n)) base s u rk (.slice (Az g) (L.length+1) n) (L ++ [(x,y,k)]) (gix (L ++ [(x,y,k)]))):=B.out.pushed δ4 b o (P.imp id (fun e=>e.trans ξ));clear o b P))
   all_goals
    go_wp2;go_end0
    exact ⟨rfl,_,_,ap.out⟩
theorem PP.made (w:World):PP (w.alloc (.cells #[SN,.map none,.map none] 59)) ((((w.alloc (.cells #[SN,.map none,.map none] 59)).alloc (.map #[] 0)).alloc (.map #[] 0)).alloc (.cells #[SN,.map (some (w.heap.size+1)),.map (some (w.heap.size+2))] 59)) (w.heap.size+4) (w.heap.size+3) (w.heap.size+1) (w.heap.size+2) SN [] (gix []):=by
 refine ⟨⟨?_, ?_, ?_, ?_⟩,by simpa [flatV] using World.ownsRow_nil _ _ _ _, ?_, ?_,⟨ξ,γ,ξ,γ,ξ,γ,γ,ξ⟩,Qb β2⟩
 ·simp [go_sem]
 ·simp [go_sem]
 ·simp [go_sem]
 ·simp [go_sem]
 ·refine ⟨[],0, ?_,Ga,fun e _=>gix_nil e,fun e v h=>by simp [lk] at h,fun e a v v' _ h=>by simp [lk] at h⟩;have e1:=Qbp (w.alloc (.cells #[SN,.map none,.map none] 59));have e2:=e1.grown (World.grownBy_alloc _ (.map #[] 0) none) ξ;have e3:=e2.grown (World.grownBy_alloc _ (.cells #[SN,.map (some (w.heap.size+1)),.map (some (w.heap.size+2))] 59) none) ξ;simpa using e3
 ·refine ⟨0, ?_,Ga⟩;have e1:=Qbp ((w.alloc (.cells #[SN,.map none,.map none] 59)).alloc (.map #[] 0));have e2:=e1.grown (World.grownBy_alloc _ (.cells #[SN,.map (some (w.heap.size+1)),.map (some (w.heap.size+2))] 59) none) ξ;simpa using e2
theorem Ql (w:World) (b o:Nat) (v:Value):w.grownBy (w.setCell ⟨b,o,none⟩ v) (some b):=by
 have a:=Below.setCell (w:=w) (p:=⟨b,o,none⟩) (Below.refl b w) (Nr _) v;exact ⟨a.os,a.tape,a.output,a.size,fun k _ c=>Below.heap_setCell _ _ _ k (fun e1=>c (by rw [e1]))⟩
theorem Ji {a b c:World} (h:a.grownBy b row) (k:b.grownBy c row):a.grownBy c row :=
 ⟨k.os.trans h.os,k.tape.trans h.tape,k.output.trans h.output,Nt h.size k.size,fun i hi d=>(k.block i (Nl hi h.size) d).trans (h.block i hi d)⟩
theorem PP.rebase {t i:World} {a:Nat} {q:Value} {G:E4→List Int} (h:PP t w base a d f q L G) (j:Bl i t) (hg:w.grownBy w' (some r)) (hr:i.heap.size≤r) (h1:r≠a) (h2:r≠d) (h3:r≠f) (h4:r<base):PP i w' base a d f q L G:=by
 obtain ⟨H,o,⟨ls,C,b1,b2,b3,b4,B⟩,⟨c,J,b⟩,⟨a1,x,a3,a4,a5,y,z,A⟩,p⟩:=h;have m:=j.size
 have l:∀ {v:Value} {n:Nat} {e:TypeId} {s:Nat} {u:List Value},w.ownsRow base e s v n u→v.ownBlock=none∨v.ownBlock≠some r:=fun {v n e s u} F=>by
  cases hu:v.ownBlock with
  | none=>exact Or.inl rfl
  | some g =>
   refine Or.inr (fun e1=>?_);have:=(F.lt g hu).1;simp at e1;omega
 refine ⟨H.grown hg (fun e=>h1 (by simpa using e.symm)),o.kept hg (l o),⟨ls,C,b1.grown hg (fun e=>h2 (by simpa using e.symm)),b2,b3,fun e v D=>?_,B⟩,⟨c,J.grown hg (fun e=>h3 (by simpa using e.symm)),b⟩,⟨γ,x,γ,a4,γ,y,z,Nt A hg.size⟩, ?_⟩
 ·obtain ⟨d1,d2,d3⟩:=b4 e v D;exact ⟨d1.kept hg (l d1),d2,d3⟩
 ·exact (j.trans (p.mono m)).grown hg (Nt m p.size) (fun k E=>by simp at E;omega)
theorem of_any (W H b off B:Nat) (zs:List Int) (w:World) (hs:Steps w) (hr:Row w (Ad b off) zs) (O:1≤W∧W≤8) (N:1≤H∧H≤8) (E:zs.length=W*H) (j:maskB zs=true) :
  Cl 42 #[I (W:Int),I (H:Int),.slice (Ad b off) zs.length B] w fun e w'=>∃ c d base pb ra rk,e=.returned (.agg #[.slice c (ty zs W H).length d,.map (some ra),.map (some rk)])∧PP w w' base pb ra rk (.slice c (ty zs W H).length d) (ty zs W H) (gix (ty zs W H)):=by
 have T:=Hd hr;have u:Hid (Steps (w.alloc (.cells #[SN,.map none,.map none] 59))):=hs.kept β1;have U:zs.length≤64:=by rw [E];exact Nt (Nat.mul_le_mul O.2 N.2) ψ
 have R:Hid (∀ z∈zs,0≤z∧z≤15):=by
  show ∀ z∈zs,0≤z∧z≤15
  simpa [maskB] using j
 have L:=Hd E;clear hr j E hs;obtain ⟨w1,w8⟩:=O;obtain ⟨h1,h8⟩:=N;have X:=@run_makeMap Tryz.prog;go_enter Tryz.func42,Tryz.ntmps42;go_wp2;go_loopg [15] H (fun g G s=>∃ (y:Nat) (c:Option Addr) (d:Nat),y≤H∧g=H - y∧G=I (y:Int)∧PP (w.alloc (.cells #[SN,.map none,.map none] 59)) s (w.heap.size+4) (w.heap.size+3) (w.heap.size+1) (w.heap.size+2) (.slice c (ty zs W y).length d) (ty zs W y) (gix (ty zs W y)))
 case atStart=>exact ⟨0,none,0,γ,rfl,rfl,by simpa [ty] using PP.made w⟩
 case round =>
  obtain ⟨y,c,d,hy,rfl,rfl,hT⟩:=hrel;have a:=Hd hT;clear hT;by_cases hy1:y<H
  ·have iy:(y:Int)<(H:Int):=γ;go_wp2;go_loopg [19] W (fun g J s=>∃ (x:Nat) (c:Option Addr) (d:Nat),x≤W∧g=W - x∧J=I (x:Int)∧PP (w.alloc (.cells #[SN,.map none,.map none] 59)) s (w.heap.size+4) (w.heap.size+3) (w.heap.size+1) (w.heap.size+2) (.slice c (ty zs W y ++ tx zs W y x).length d) (ty zs W y ++ tx zs W y x) (gix (ty zs W y ++ tx zs W y x)))
   case atStart=>exact ⟨0,c,d,γ,rfl,rfl,by rw [tx_zero,List.append_nil];exact a.out⟩
   case round =>
    clear a;obtain ⟨x,c,d,hx,rfl,rfl,hT⟩:=hrel;have a:=Hd hT;clear hT;by_cases hx1:x<W
    ·have ix:(x:Int)<(W:Int):=γ;go_wp2;go_loopg [22] 4 (fun g K s=>∃ (k:Nat) (c:Option Addr) (d:Nat),k≤4∧g=4 - k∧K=I (k:Int)∧PP (w.alloc (.cells #[SN,.map none,.map none] 59)) s (w.heap.size+4) (w.heap.size+3) (w.heap.size+1) (w.heap.size+2) (.slice c (ty zs W y ++ tx zs W y x ++ tk zs W x y k).length d) (ty zs W y ++ tx zs W y x ++ tk zs W x y k) (gix (ty zs W y ++ tx zs W y x ++ tk zs W x y k)))
     case atStart=>exact ⟨0,c,d,γ,rfl,rfl,by rw [tk_zero,List.append_nil];exact a.out⟩
     case round =>
      clear a;obtain ⟨k,c,d,hk,rfl,rfl,hT⟩:=hrel;have a:=Hd hT;clear hT;by_cases hk1:k<4
      ·have ik:(k:Int)<4:=γ
       have F:y*W+W≤W*H:=by
        have:=Nat.mul_le_mul_right W (show y+1≤H by omega);rw [Nat.succ_mul,Nat.mul_comm H W] at this;exact this
       have j:y*W+x<zs.length:=by rw [L.out];omega
       have r:y*W≤64:=by have:=L.out;omega
       obtain ⟨b',Q,M,D⟩:=(T.out.kept (Qc β1 a.out.2.2.2.2.2)) (y*W+x) j;simp at M;obtain ⟨rfl,rfl⟩:=M;have l:=R.out _ (Lm j);have h:Hid (bitAt zs W x y k=bitB (zs[y*W+x]) k):=by show _=_;simp [bitAt,j]
       obtain ⟨z,P⟩:∃ z,z=zs[y*W+x]:=⟨_,rfl⟩;rw [← P] at D l h;have i:=bit_eq z (k:Int) l.1 l.2 γ γ;rw [Int.toNat_natCast] at i;have a2:(0:Int)≤(y:Int)*(W:Int):=by rw [← Int.natCast_mul];omega
       have a6:(y:Int)*(W:Int)≤64:=by rw [← Int.natCast_mul];omega
       have yx:(y:Int)*(W:Int)+(x:Int)=((y*W+x:Nat):Int):=ξ;have Z:((y*W+x:Nat):Int)<(zs.length:Int):=γ;have Y:(0:Int)≤((y*W+x:Nat):Int):=γ;obtain ⟨m,f⟩:∃ m,m=y*W+x:=⟨_,rfl⟩;rw [← f] at D yx Z Y;have a7:=bk D;clear P j F r f
       cases hbit:bitB z (k:Int)
       ·rw [hbit] at i;go_wp2;go_roundg (4 - (k+1))
        case measure=>omega
        case rel=>exact ⟨k+1,c,d,γ,rfl,σ,by rw [tk_no (h.out.trans hbit)];exact a.out⟩
       ·rw [hbit] at i
        have o:(ty zs W y ++ tx zs W y x ++ tk zs W x y k).length≤300:=by
         have q1:=Yu zs W y w8;have q2:=tx_len zs W y x;have q3:=tk_len zs W x y k;simp only [List.length_append];omega
        have q:triB (x:Int) (y:Int) (k:Int)=true:=by simp [triB];omega
        go_wp2_with (go_at_call 91;refine (add_any (w.alloc (.cells #[SN,.map none,.map none] 59)) (x:Int) (y:Int) (k:Int) _ _ _ _ d c (ty zs W y ++ tx zs W y x ++ tk zs W x y k) _ q u.out o a.out).mono ?_;rintro e w2 ⟨rfl,A,C,n⟩;have t:=Hd n;clear n)
        go_roundg (4 - (k+1))
        case measure=>omega
        case rel =>
         have V:ty zs W y ++ tx zs W y x ++ tk zs W x y (k+1)=(ty zs W y ++ tx zs W y x ++ tk zs W x y k) ++ [((x:Int),(y:Int),(k:Int))]:=by rw [tk_yes (h.out.trans hbit),← List.append_assoc]
         refine ⟨k+1,A,C,γ,rfl,σ, ?_⟩;rw [V,List.length_append,List.length_singleton];exact t.out
      ·go_wp2;go_roundg (W - (x+1))
       case measure=>omega
       case rel =>
        obtain rfl:k=4:=γ;exact ⟨x+1,c,d,γ,rfl,σ,by rw [Qbj,← List.append_assoc];exact a.out⟩
    ·have ix:¬ (x:Int)<(W:Int):=γ;go_wp2;go_roundg (H - (y+1))
     case measure=>omega
     case rel =>
      obtain rfl:x=W:=γ;exact ⟨y+1,c,d,γ,rfl,σ,by rw [Qbi];exact a.out⟩
  ·have iy:¬ (y:Int)<(H:Int):=γ;obtain rfl:y=H:=γ;obtain ⟨q0,q1,q2,_⟩:=a.out.1;have c0:=(a.out.2.2.2.2.2.cell (p:=⟨w.heap.size,0,none⟩) ξ).trans (by simp [go_sem]:(w.alloc (.cells #[SN,.map none,.map none] 59)).cell? ⟨w.heap.size,0,none⟩=some SN);have c1:=(a.out.2.2.2.2.2.cell (p:=⟨w.heap.size,1,none⟩) ξ).trans (by simp [go_sem]:(w.alloc (.cells #[SN,.map none,.map none] 59)).cell? ⟨w.heap.size,1,none⟩=some (.map none));have c2:=(a.out.2.2.2.2.2.cell (p:=⟨w.heap.size,2,none⟩) ξ).trans (by simp [go_sem]:(w.alloc (.cells #[SN,.map none,.map none] 59)).cell? ⟨w.heap.size,2,none⟩=some (.map none));have f0:=(a.out.2.2.2.2.2.frozen (p:=⟨w.heap.size,0,none⟩) ξ).trans (by simp [go_sem]:(w.alloc (.cells #[SN,.map none,.map none] 59)).frozen? ⟨w.heap.size,0,none⟩=false);have f1:=(a.out.2.2.2.2.2.frozen (p:=⟨w.heap.size,1,none⟩) ξ).trans (by simp [go_sem]:(w.alloc (.cells #[SN,.map none,.map none] 59)).frozen? ⟨w.heap.size,1,none⟩=false);have f2:=(a.out.2.2.2.2.2.frozen (p:=⟨w.heap.size,2,none⟩) ξ).trans (by simp [go_sem]:(w.alloc (.cells #[SN,.map none,.map none] 59)).frozen? ⟨w.heap.size,2,none⟩=false);go_wp2;refine bodyPost_ret (v:=.agg #[.slice c (ty zs W y).length d,.map (some (w.heap.size+1)),.map (some (w.heap.size+2))]) ?_ rfl ⟨_,_,_,_,_,_,rfl,a.out.rebase β1 (Ji (Ji (Ql _ _ 0 _) (Ql _ _ 1 _)) (Ql _ _ 2 _)) (Nr _) γ γ γ γ⟩;simp [results,Tryz.results42,go_sem,c0,c1,c2]
def jE (i:Nat) (e:E4) (G:List Int):List (E4×Int):=(G.filter fun j=>decide (j≠(i:Int))).map fun j=>(e,j)
theorem jE_yes {G:List Int} (a:m<G.length) (h:G[m]≠(i:Int)):jE i e (G.take (m+1))=jE i e (G.take m) ++ [(e,G[m])]:=by
 unfold jE;rw [List.take_succ_eq_append_getElem a,List.filter_append,List.map_append];simp [h]
theorem jE_no {G:List Int} (a:m<G.length) (h:G[m]=(i:Int)):jE i e (G.take (m+1))=jE i e (G.take m):=by
 unfold jE;rw [List.take_succ_eq_append_getElem a,List.filter_append,List.map_append];simp [h]
theorem jE_len (i:Nat) (e:E4) (G:List Int):(jE i e G).length≤G.length:=by
 unfold jE;rw [List.length_map];exact List.length_filter_le _ _
def jl (L:List T3) (t:T3) (i n:Nat):List (E4×Int):=(List.range n).flatMap fun k=>jE i (edg t k) (gix L (edg t k))
theorem jl_zero (L:List T3) (t:T3) (i:Nat):jl L t i 0=[]:=by simp [jl]
theorem Kx (L:List T3) (t:T3) (i n:Nat):jl L t i (n+1)=jl L t i n ++ jE i (edg t n) (gix L (edg t n)):=by simp [jl,List.range_succ,List.flatMap_append]
theorem jl_len (L:List T3) (t:T3) (i n:Nat):(jl L t i n).length≤n*L.length:=by
 induction n with
 | zero=>simp [jl]
 | succ n ih =>
  rw [Kx,List.length_append,Nat.succ_mul];have:=jE_len i (edg t n) (gix L (edg t n));have:=gix_len L (edg t n);omega
theorem Yz:(e,j)∈jl L t i n↔∃ k,k<n∧e=edg t k∧∃ m:Nat,∃ h:m<L.length,j=(m:Int)∧m≠i∧hasT L[m] e=true:=by
 simp only [jl,jE,List.mem_flatMap,List.mem_range,List.mem_map,List.mem_filter,decide_eq_true_eq,gix_mem];constructor
 ·rintro ⟨k,b,a,⟨⟨m,c,rfl,f⟩,d⟩,g⟩;simp only [Prod.mk.injEq] at g;obtain ⟨rfl,rfl⟩:=g;exact ⟨k,b,rfl,m,c,rfl,γ,f⟩
 ·rintro ⟨k,b,rfl,m,c,rfl,d,f⟩;exact ⟨k,b,(m:Int),⟨⟨m,c,rfl,f⟩,γ⟩,rfl⟩
def flatJ (l:List (E4×Int)):List Value:=l.flatMap fun t=>[I t.1.1,I t.1.2.1,I t.1.2.2.1,I t.1.2.2.2,I t.2]
theorem Yg (l m:List (E4×Int)):flatJ (l ++ m)=flatJ l ++ flatJ m:=by simp [flatJ,List.flatMap_append]
theorem Gd:∀ (l:List (E4×Int)) (i:Nat) (h:i<l.length),(flatJ l)[i*5]?=some (I l[i].1.1)∧(flatJ l)[i*5+1]?=some (I l[i].1.2.1)∧(flatJ l)[i*5+2]?=some (I l[i].1.2.2.1)∧(flatJ l)[i*5+3]?=some (I l[i].1.2.2.2)∧(flatJ l)[i*5+4]?=some (I l[i].2)
 | [],i,h=>by simp at h
 | t :: l,0,h=>by simp [flatJ]
 | t :: l,i+1,h=>by
  have b:=Gd l i (by simpa using h);have e:flatJ (t :: l)=[I t.1.1,I t.1.2.1,I t.1.2.2.1,I t.1.2.2.2,I t.2] ++ flatJ l:=by simp [flatJ]
  have q:∀ o,(flatJ (t :: l))[(i+1)*5+o]?=(flatJ l)[i*5+o]?:=fun o=>by
   rw [e,List.getElem?_append_right ω];congr 1
   simp;omega
  have a:=q 0;simp only [Nat.add_zero] at a;simp only [List.getElem_cons_succ];rw [a,q 1,q 2,q 3,q 4];exact b
def JRow (w:World) (a:Option Addr) (l:List (E4×Int)):Prop := ∀ i (h:i<l.length),∃ g,a=Az g∧At w g (i*5) (I l[i].1.1)∧At w g (i*5+1) (I l[i].1.2.1)∧At w g (i*5+2) (I l[i].1.2.2.1)∧At w g (i*5+3) (I l[i].1.2.2.2)∧At w g (i*5+4) (I l[i].2)
theorem JRow.kept {a:Option Addr} {l:List (E4×Int)} (h:JRow w a l) (b:Bl w w'):JRow w' a l:=fun i hi=>by
 obtain ⟨g,e,h0,h1,h2,h3,h4⟩:=h i hi;exact ⟨g,e,Qa b h0,Qa b h1,Qa b h2,Qa b h3,Qa b h4⟩
theorem own_joints {l:List (E4×Int)} (h:w.ownsRow base 105 5 v l.length (flatJ l)):∃ a b,v=.slice a l.length b∧JRow w a l:=by
 rcases h.2 with ⟨rfl,h0⟩ | ⟨g,b,c,rfl,_⟩
 ·exact ⟨none,0,by rw [h0],fun i hi=>by omega⟩
 ·refine ⟨Az g,b,rfl,fun i hi=>⟨g,rfl, ?_⟩⟩;have f:=Gd l i hi;exact ⟨(h.cellAt _ γ).trans f.1,(h.cellAt _ γ).trans f.2.1,(h.cellAt _ γ).trans f.2.2.1,(h.cellAt _ γ).trans f.2.2.2.1,(h.cellAt _ γ).trans f.2.2.2.2⟩
def JW (w:World) (base:Nat) (a:Option Addr) (l:List (E4×Int)):Prop:=JRow w a l∧∀ g,a=Az g→base≤g∧∃ cur,w.heap[g]?=some (.cells cur 105)
theorem own_jw {l:List (E4×Int)} (h:w.ownsRow base 105 5 v l.length (flatJ l)):∃ a c,v=.slice a l.length c∧JW w base a l:=by
 obtain ⟨a,c,e,hr⟩:=own_joints h;refine ⟨a,c,e,hr,fun g hg=>?_⟩;subst e hg;rcases h.2 with ⟨e1,_⟩ | ⟨b,f,d,e1,i,j,_⟩
 ·simp at e1
 ·simp only [Value.slice.injEq,Option.some.injEq,Addr.mk.injEq] at e1;obtain ⟨⟨rfl,_⟩,_⟩:=e1;exact ⟨i,d,j⟩
theorem JW.grown {a:Option Addr} {l:List (E4×Int)} (h:JW w base a l) (hg:w.grownBy w' row) (c:∀ g,row=some g→a≠Az g):JW w' base a l:=by
 refine ⟨fun i hi=>?_,fun g f=>?_⟩
 ·obtain ⟨g,e,h0,h1,h2,h3,h4⟩:=h.1 i hi;have b:some g≠row:=fun e1=>c g e1.symm e;exact ⟨g,e,hg.cell h0 b,hg.cell h1 b,hg.cell h2 b,hg.cell h3 b,hg.cell h4 b⟩
 ·obtain ⟨h1,d,h2⟩:=h.2 g f;exact ⟨h1,d,(hg.block g (Array.getElem?_eq_some_iff.1 h2).1 (fun e1=>c g e1.symm f)).trans h2⟩
theorem JW.kept {a:Option Addr} {l:List (E4×Int)} (h:JW w base a l) (b:Bl w w'):JW w' base a l:=h.grown (Qy b) ξ
theorem JW.mono {base':Nat} {a:Option Addr} {l:List (E4×Int)} (h:JW w base a l) (c:base'≤base):JW w base' a l:=⟨h.1,fun g b=>⟨Nt c (h.2 g b).1,(h.2 g b).2⟩⟩
theorem JW.not_row {b2:Nat} {a:Option Addr} {l:List (E4×Int)} {k:List Value} (h:JW w base a l) (j:w.ownsRow b2 3 1 v n k):∀ g,v.ownBlock=some g→a≠Az g:=fun g hg i=>by
 obtain ⟨_,f,h2⟩:=h.2 g i;rcases j.2 with ⟨rfl,_⟩ | ⟨b,e,d,rfl,_,c,_⟩
 ·simp [Value.ownBlock] at hg
 ·obtain rfl:b=g:=by simpa [Value.ownBlock] using hg
  rw [h2] at c;simp at c
def EB (w:World) (B:Nat) (p q r s:Int):Prop:=w.heap[B]?=some (.cells #[I p,I q,I r,I s] 47)
theorem EB.cells {r:Int} (h:EB w B p q r s):At w B 0 (I p)∧At w B 1 (I q)∧At w B 2 (I r)∧At w B 3 (I s):=by
 unfold EB at h;simp [World.cell?,h]
theorem EB.lt {r:Int} (h:EB w B p q r s):B<w.heap.size:=(Array.getElem?_eq_some_iff.1 h).1
theorem EB.grown {r:Int} (h:EB w B p q r s) (hg:w.grownBy w' row) (a:some B≠row):EB w' B p q r s:=(hg.block B h.lt a).trans h
theorem EB.kept {r:Int} (h:EB w B p q r s) (a:Bl w w'):EB w' B p q r s:=h.grown (Qy a) ξ
theorem EB.not_row {r:Int} {f:List Value} (h:EB w B p q r s) (d:w.ownsRow base 105 5 v n f):some B≠v.ownBlock:=by
 rcases d.2 with ⟨rfl,_⟩ | ⟨g,b,c,rfl,_,a,_⟩
 ·simp [Value.ownBlock]
 ·intro e;obtain rfl:B=g:=by simpa [Value.ownBlock] using e
  unfold EB at h;rw [h] at a;simp at a
def PB (w:World) (B:Nat) (ad:Option Addr) (n cc ra rk:Nat):Prop:=At w B 0 (.slice ad n cc)∧At w B 1 (.map (some ra))∧At w B 2 (.map (some rk))
theorem PB.kept {e:Nat} {b:Option Addr} (h:PB w B b n c d e) (a:Bl w w'):PB w' B b n c d e:=⟨Qa a h.1,Qa a h.2.1,Qa a h.2.2⟩
def JM (w wx:World) (ad:Option Addr) (n cc ra rk:Nat) (J:List (E4×Int)) (v:Value):Prop :=
 wx.ownsRow (w.heap.size+1) 105 5 v J.length (flatJ J)∧Bl w wx∧PB wx w.heap.size ad n cc ra rk∧w.heap.size+1≤wx.heap.size
theorem JM.kept {f:World} {b:Option Addr} {e:Nat} {J:List (E4×Int)} (h:JM w f b n c d e J v) (a:Bl f w'):JM w w' b n c d e J v :=
 ⟨Qj h.1 a,Qc h.2.1 a,h.2.2.1.kept a,Nt h.2.2.2 a.size⟩
theorem JM.more {m d f:World} {g:Option Addr} {k l:Nat} {J:List (E4×Int)} {v':Value} (h:JM w m g n i k l J v) (o:Bl m d) (hg:d.grownBy f v.ownBlock) (c:f.ownsRow (w.heap.size+1) 105 5 v' (J.length+1) (flatJ J ++ [I e.1,I e.2.1,I e.2.2.1,I e.2.2.2,I j])):JM w f g n i k l (J ++ [(e,j)]) v':=by
 have b:=h.kept o;have a:=Below.grown (Below.refl (w.heap.size+1) d) hg b.2.2.2 (Qw b.1);have q:=a.size;refine ⟨?_,b.2.1.trans (a.mono γ),⟨?_, ?_, ?_⟩,by have:=b.2.2.2;omega⟩
 ·rw [Yg,List.length_append];simpa [flatJ] using c
 ·exact (a.cell (p:=⟨w.heap.size,0,none⟩) θ).trans b.2.2.1.1
 ·exact (a.cell (p:=⟨w.heap.size,1,none⟩) θ).trans b.2.2.1.2.1
 ·exact (a.cell (p:=⟨w.heap.size,2,none⟩) θ).trans b.2.2.1.2.2
theorem infJ:(Tryz.prog.info? 105).map (fun i=>(i.zero,i.size,i.bytes))=some (some (.agg #[I 0,I 0,I 0,I 0,I 0]),5,40):=η
theorem Um (w:World) (T:TypeId) (a b c d e:Int):∀ j u,([I a,I b,I c,I d,I e])[j]?=some u→(w.alloc (.cells #[I a,I b,I c,I d,I e] T)).cell? ((⟨w.heap.size,0,none⟩:Addr).add j)=some u:=by
 intro j u f;match j,f with
 | 0,f=>simp at f;subst f;simp [go_sem,Addr.add]
 | 1,f=>simp at f;subst f;simp [go_sem,Addr.add]
 | 2,f=>simp at f;subst f;simp [go_sem,Addr.add]
 | 3,f=>simp at f;subst f;simp [go_sem,Addr.add]
 | 4,f=>simp at f;subst f;simp [go_sem,Addr.add]
theorem Uv (w:World) (t q A i:Nat) (ad:Option Addr) (L:List T3) (x y k:Int) (hs:Steps w) (s:PA w ad q L) (hi:i<L.length) (ht:(x,y,k)=L[i]) (hL:L.length≤300) (aa:(0≤x∧x≤8)∧(0≤y∧y≤8)∧(0≤k∧k≤3)) :
  Cl 102 #[.agg #[.slice ad L.length t,.map (some q),.map (some A)],I (i:Int)] w fun e w'=>∃ v,e=.returned v∧w'.ownsRow (w.heap.size+1) 105 5 v (jl L (x,y,k) i 3).length (flatJ (jl L (x,y,k) i 3))∧Bl w w':=by
 have a8:=Hd hs;have a7:=Hd s;obtain ⟨i5,K,N,O,P⟩:=info_parts infJ;have Q:=H4 K N O P;obtain ⟨tg,rfl,t0,t1,t2⟩:=s.1 i hi;rw [← ht] at t0 t1 t2;dsimp only at t0 t1 t2;have zt:=Bt t0;have p:triB x y k=true:=by simp [triB];omega
 have D:=Hd p;have j1:(i:Int)<(L.length:Int):=γ;have j0:(0:Int)≤(i:Int):=γ;clear hs s K N O P p aa ht;go_enter Tryz.func102,Tryz.ntmps102;go_wp2_with (go_at_call 138;refine (Vq _ _ _ _ D.out (a8.out.kept Θ)).mono ?_;rintro e wq ⟨rfl,V⟩;have F:JM w wq (Az tg) L.length t q A [] SN:=⟨by simpa [flatJ] using World.ownsRow_nil _ _ _ _,Qc β1 V,PB.kept (by simp [PB,go_sem]) V,by have:=V.size;simp at this;omega⟩;have R:=Hd F;clear V F t0 t1 t2 zt)
 go_loopg [5,16] 3 (fun gk s5 af W=>∃ e:Nat,e≤3∧gk=3 - e∧af=I (e:Int)∧JM w W (Az tg) L.length t q A (jl L (x,y,k) i e) s5)
 case atStart=>exact ⟨0,γ,rfl,rfl,by rw [jl_zero];exact R.out⟩
 case round =>
  clear R;obtain ⟨e,he,rfl,rfl,z⟩:=hrel;obtain ⟨vA,ab⟩:∃ u,u=u5:=⟨_,rfl⟩;subst ab;have h:=Hd z;obtain ⟨p0,p1,p2⟩:=z.2.2.1;have zp:=Bt p0;have ah:w.heap.size<wr.heap.size+1:=γ;clear z;by_cases he1:e<3
  ·have ie:(e:Int)<3:=γ;obtain ⟨a,c,d,f,hq⟩:∃ a c d f,edg (x,y,k) e=(a,c,d,f):=⟨_,_,_,_,rfl⟩
   have hx:(Instr.index 209 (.agg #[I (ue0 x y k),I (ue1 x y k),I (ue2 x y k),I (ue3 x y k),I (ue4 x y k),I (ue5 x y k),I (ue6 x y k),I (ue7 x y k),I (ue8 x y k),I (ue9 x y k),I (ue10 x y k),I (ue11 x y k)]) (I (e:Int))).run Tryz.prog wr=.ok (.agg #[I a,I c,I d,I f]) wr:=by
    obtain ⟨a0,a1,a2⟩:=idx32 (ue0 x y k) (ue1 x y k) (ue2 x y k) (ue3 x y k) (ue4 x y k) (ue5 x y k) (ue6 x y k) (ue7 x y k) (ue8 x y k) (ue9 x y k) (ue10 x y k) (ue11 x y k) wr;have h3:e=0∨e=1∨e=2:=γ;rcases h3 with rfl | rfl | rfl
    ·simp only [edg,if_true,Prod.mk.injEq] at hq;obtain ⟨rfl,rfl,rfl,rfl⟩:=hq;exact a0
    ·simp only [edg,if_true,if_false,Nat.one_ne_zero,Prod.mk.injEq] at hq;obtain ⟨rfl,rfl,rfl,rfl⟩:=hq;exact a1
    ·simp only [edg,if_false,show ¬ (2:Nat)=0 by omega,show ¬ (2:Nat)=1 by omega,Prod.mk.injEq] at hq;obtain ⟨rfl,rfl,rfl,rfl⟩:=hq;exact a2
   have R:=Hd hq;clear hq;obtain ⟨ga,gc,J,n⟩:=a7.out.2 (a,c,d,f);have B:=Hd J
   have r:Hid (EB (wr.alloc (.cells #[I a,I c,I d,I f] 47)) wr.heap.size a c d f):=by
    have:EB (wr.alloc (.cells #[I a,I c,I d,I f] 47)) wr.heap.size a c d f:=heap_alloc_new wr _;exact this
   have ae:(Instr.lookup 56 (.map (some q)) (.agg #[I a,I c,I d,I f]) false).run Tryz.prog (wr.alloc (.cells #[I a,I c,I d,I f] 47))=.ok (.slice ga (gix L (a,c,d,f)).length gc) (wr.alloc (.cells #[I a,I c,I d,I f] 47)):=n _ (Qb h.out.2.1);have C:Hid (JM w (wr.alloc (.cells #[I a,I c,I d,I f] 47)) (Az tg) L.length t q A (jl L (x,y,k) i e) vA):=h.out.kept β1;obtain ⟨T,H⟩:∃ b,b=wr.heap.size:=⟨_,rfl⟩;clear J n;go_wp2;obtain ⟨G,E⟩:∃ G,G=gix L (a,c,d,f):=⟨_,rfl⟩;have HG:=Hd E;rw [← E] at B;have aj:G.length≤300:=by rw [E];exact Nt (gix_len _ _) hL
   rw [← E];rw [← H] at r ⊢;clear E ae hx H;go_loopg [5,24] G.length (fun gk s5 ag W=>∃ m:Nat,m≤G.length∧gk=G.length - m∧ag=I (m:Int)∧JM w W (Az tg) L.length t q A (jl L (x,y,k) i e ++ jE i (a,c,d,f) (G.take m)) s5∧EB W T a c d f)
   case atStart=>exact ⟨0,γ,rfl,rfl,by simpa [jE] using C.out,r.out⟩
   case round =>
    clear h C r p0 p1 p2 zp ah;obtain ⟨m,hm,rfl,rfl,z,U⟩:=hrel;obtain ⟨vB,ac⟩:∃ u,u=u5:=⟨_,rfl⟩;subst ac;have h:=Hd z;have X:=Hd U;obtain ⟨d0,d1,d2,d3⟩:=U.cells;have zd:T<wr.heap.size:=U.lt;clear z U;by_cases hm1:m<G.length
    ·have im:(m:Int)<(G.length:Int):=γ;have ak:(0:Int)≤(m:Int):=γ;obtain ⟨gb,go,rfl,l⟩:=(B.out.kept h.out.2.1) m hm1;have am:=Bt l;obtain ⟨j,hj⟩:∃ j,j=G[m]:=⟨_,rfl⟩;rw [← hj] at l;have Z:=Hd hj;clear hj;by_cases hne:j=(i:Int)
     ·subst hne;go_wp2;go_roundg (G.length - (m+1))
      case measure=>omega
      case rel=>exact ⟨m+1,γ,rfl,σ,by rw [jE_no hm1 Z.out.symm];exact h.out,X.out⟩
     ·have ai:(jl L (x,y,k) i e ++ jE i (a,c,d,f) (G.take m)).length+1≤2000:=by
       have a1:=jl_len L (x,y,k) i e;have a2:=jE_len i (a,c,d,f) (G.take m);have a3:e*L.length≤3*300:=Nat.mul_le_mul he hL;rw [List.length_append];simp only [List.length_take] at a2;omega
      go_wp2_with (at_builtin;refine wpList_append_own _ rfl (.tmp 31) (.tmp 35) 164 rfl (w.heap.size+1) 105 i5 (.agg #[I 0,I 0,I 0,I 0,I 0]) 5 40 Tryz.underlying164 Q.out.1 Q.out.2.1 Q.out.2.2.1 Q.out.2.2.2 rfl ψ vB (jl L (x,y,k) i e ++ jE i (a,c,d,f) (G.take m)).length (flatJ (jl L (x,y,k) i e ++ jE i (a,c,d,f) (G.take m))) rfl ?own ⟨wr.heap.size,0,none⟩ 1 1 [I a,I c,I d,I f,I j] rfl rfl ?c1 ?c2 ?b1 ?b2 ?b3 ?grow)
      case own=>exact Qj h.out.1 β1
      case c1=>exact Um _ _ _ _ _ _ _
      case c2 =>
       intro u hu;simp at hu;rcases hu with rfl | rfl | rfl | rfl | rfl <;> rfl
      case b1 =>
       unfold maxLen;omega
      case b2=>omega
      case b3 =>
       have:=h.out.2.2.2;simp;omega
      case grow =>
       intro v' w3 o g M;rw [← List.length_append] at o
       have a6:Hid (JM w w3 (Az tg) L.length t q A (jl L (x,y,k) i e ++ jE i (a,c,d,f) (G.take (m+1))) v'):=by
        have h1:=h.out.more (e:=(a,c,d,f)) (j:=j) β1 g o;rw [jE_yes hm1 (by rw [← Z.out];exact hne),← Z.out,← List.append_assoc];exact h1
       have Y:Hid (EB w3 T a c d f):=by
        have h1:EB w3 T a c d f:=(X.out.kept β1).grown g (X.out.not_row h.out.1);exact h1
       clear o g M;go_wp2;go_roundg (G.length - (m+1))
       case measure=>omega
       case rel=>exact ⟨m+1,γ,rfl,σ,a6.out,Y.out⟩
    ·have im:¬ (m:Int)<(G.length:Int):=γ;obtain rfl:m=G.length:=γ;go_wp2;go_roundg (3 - (e+1))
     case measure=>omega
     case rel =>
      refine ⟨e+1,γ,rfl,σ, ?_⟩;have h1:=h.out;rw [List.take_length,HG.out] at h1;rw [Kx,R.out];exact h1
  ·have ie:¬ (e:Int)<3:=γ;obtain rfl:e=3:=γ;go_wp2;go_ret;exact ⟨vA,rfl,h.out.1,h.out.2.1⟩
def rowN (R:List Nat):List Value:=R.map fun (i:Nat)=>I (i:Int)
def SpM (wE wx w:World) (g:Nat) (ad:Option Addr) (cc ra rk:Nat) (L:List T3) (part:Nat→Int) (num:Int) (R:List Nat) (v:Value):Prop :=
 ZRow wx g L.length (lab part num R)∧wx.ownsRow (w.heap.size+1) 3 1 v R.length (rowN R)∧Bl wE wx∧(At wx w.heap.size 0 (.slice ad L.length cc)∧At wx w.heap.size 1 (.map (some ra))∧At wx w.heap.size 2 (.map (some rk)))∧w.heap.size+1≤wx.heap.size
theorem SpM.kept {j k:World} {e:Nat} {d:Option Addr} {a:Nat→Int} {c:Int} {R:List Nat} (h:SpM j k w g d e f i L a c R v) (b:Bl k w'):SpM j w' w g d e f i L a c R v :=
 ⟨h.1.kept b,Qj h.2.1 b,Qc h.2.2.1 b,⟨Qa b h.2.2.2.1.1,Qa b h.2.2.2.1.2.1,Qa b h.2.2.2.1.2.2⟩,Nt h.2.2.2.2 b.size⟩
theorem rowN_at (R:List Nat) (i:Nat) (h:i<R.length):(rowN R)[i]?=some (I ((R[i]:Nat):Int)):=by simp [rowN,h]
theorem SpM.slice {n e:World} {j l:Nat} {f:Option Addr} {c:Nat→Int} {d:Int} {R:List Nat} (h:SpM n e w g f j l m L c d R v) (o:0<R.length):∃ b a,v=.slice (some ⟨b,0,none⟩) R.length a∧w.heap.size+1≤b∧∀ i (hi:i<R.length),e.cell? ⟨b,i,none⟩=some (I ((R[i]:Nat):Int)):=by
 rcases h.2.1.2 with ⟨_,h0⟩ | ⟨b,a,k,hv,h2,h3⟩
 ·omega
 ·refine ⟨b,a,hv,h2,fun i hi=>?_⟩;subst hv;have:=h.2.1.cellAt i γ;(try simp only [I]);rw [this,rowN_at R i hi]
theorem SpM.more {m f B l:World} {x z A j:Nat} {t:Option Addr} {c:Nat→Int} {a:Int} {R:List Nat} {v':Value} (h:SpM m f w g t x z A L c a R v) (C:g<w.heap.size) (p:m.heap.size≤g) (D:j<L.length)
  (i:Below (f.setCell ⟨g,j,none⟩ (I a)).heap.size (f.setCell ⟨g,j,none⟩ (I a)) B) (hg:B.grownBy l v.ownBlock) (d:l.ownsRow (w.heap.size+1) 3 1 v' (R.length+1) (rowN R ++ [I (j:Int)])) :
  SpM m l w g t x z A L c a (R ++ [j]) v':=by
 obtain ⟨h1,h2,h3,⟨y,F,G⟩,h5⟩:=h;have b:∀ k,v.ownBlock=some k→w.heap.size+1≤k:=fun k s=>(h2.lt k s).1
 have r:some g≠v.ownBlock:=fun e=>by
  have:=b g e.symm;omega
 have n:some w.heap.size≠v.ownBlock:=fun e=>by
  have:=b _ e.symm;omega
 have z1:=((h1.set a D).kept i).grown hg r
 have q:∀ {o:Nat} {u:Value},At f w.heap.size o u→At l w.heap.size o u:=fun {o u} E=>by
  refine hg.cell (Qa i ?_) n;rw [Co _ _ _ _ π];exact E
 refine ⟨?_, ?_, ?_,⟨q y,q F,q G⟩, ?_⟩
 ·rw [lab_found];exact z1
 ·rw [List.length_append,List.length_singleton];have:rowN (R ++ [j])=rowN R ++ [I (j:Int)]:=by simp [rowN]
  rw [this];exact d
 ·have k1:Bl m (f.setCell ⟨g,j,none⟩ (I a)):=h3.setCell p _;have k2:=k1.trans (i.mono k1.size);have:=h3.size
  exact k2.grown hg k2.size (fun k s=>by
   have:=b k s;have:=bk y;omega)
 ·have H:=i.size;have J:=hg.size;rw [World.size_setCell] at H;omega
theorem owns_one (w:World) (base:Nat) (v:Value) (h:base≤w.heap.size):(w.alloc (.cells #[v] 3)).ownsRow base 3 1 (.slice (Az w.heap.size) 1 1) 1 [v] :=
 ⟨ξ,.inr ⟨w.heap.size,1,#[v],rfl,h,heap_alloc_new w _,Nr _,Ξ,ξ,ξ⟩⟩
theorem DoneT.joints {c:E4→Bool} {a:Nat→Int} {R:List Nat} (hi:i∈R) (h:∀ m (b:m<(jl L t i 3).length),∀ j:Nat,(jl L t i 3)[m].2=(j:Int)→c (jl L t i 3)[m].1=true→j∈R∨0≤a j):DoneT c L a R t 3:=fun k g d j f l=>by
 by_cases e:j=i
 ·subst e;exact Or.inl hi
 ·have b:(edg t k,(j:Int))∈jl L t i 3:=Yz.2 ⟨k,g,rfl,j,f,rfl,e,l⟩;obtain ⟨m,b,e1⟩:=List.getElem_of_mem b;exact h m b j (by rw [e1]) (by rw [e1];exact d)
theorem spread_all (V w:World) (g X U rk f:Nat) (Q:Option Addr) (L:List T3) (a:Nat→Int) (d:Int) (T:E4→Bool) (hs:Steps V) (b8:PA V Q U L) (hB:Bl V w) (ba:V.heap.size≤g) (hZ:ZRow w g L.length a) (hf:f<L.length) (hp:a f<0) (bi:0≤d∧d≤1000) (hL:L.length≤300) (bh:L.Nodup) (b9:∀ t∈L,(0≤t.1∧t.1≤8)∧(0≤t.2.1∧t.2.1≤8)∧(0≤t.2.2∧t.2.2≤3))
  (b7:∀ (nr G H K M qt:Int) (c:World),Bl V c→Rt 92 #[I nr,.agg #[I G,I H,I K,I M,I qt]] c (.bool (T (G,H,K,M)))) :
  Cl 95 #[.agg #[.slice Q L.length X,.map (some U),.map (some rk)],.slice (Az g) L.length L.length,I (f:Int),I d,.func (.func 92) #[] #[]] w fun e w'=>e=.returned (.tuple #[])∧∃ R,Sp T L a f R∧ZRow w' g L.length (lab a d R)∧(∀ i∈R,∀ h:i<L.length,DoneT T L a R L[i] 3)∧Bl V w':=by
 have ar:=Hd b7;have bn:Hid (∀ (c:World) (i:Nat) (hi:i<L.length),Bl V c→Cl 102 #[.agg #[.slice Q L.length X,.map (some U),.map (some rk)],I (i:Int)] c fun e w'=>∃ v,e=.returned v∧w'.ownsRow (c.heap.size+1) 105 5 v (jl L L[i] i 3).length (flatJ (jl L L[i] i 3))∧Bl c w'):=fun c i hi s=>Uv c X U rk i Q L L[i].1 L[i].2.1 L[i].2.2 (hs.kept s) (b8.kept s) hi rfl hL (b9 _ (Lm hi));have bp:=Hd bh;obtain ⟨z0,zf⟩:=hZ f hf;have bu:=Bt z0;have HZ:=H2 hZ hB
 have az:Hid (Sp T L a f [f]):=⟨ξ,ξ,fun i hi=>by
  simp at hi;subst hi;exact ⟨hf,hp,hf,.here (Lm hf)⟩⟩
 obtain ⟨i3,bb,ah,ai,aj⟩:=info_parts inf3;have HI:=H4 bb ah ai aj;obtain ⟨n0,n1⟩:=bi;have d6:(f:Int)<(L.length:Int):=γ;have cz:(0:Int)≤(f:Int):=γ;clear hs b8 b9 bh hZ hB bb ah ai aj hp b7;go_enter Tryz.func95,Tryz.ntmps95;go_wp2;go_loopg [10,11] L.length (fun gk ao cf wx=>∃ (n:Nat) (R:List Nat),n≤R.length∧L.length - n≤gk∧cf=I (n:Int)∧Sp T L a f R∧(∀ m (hm:m<R.length),m<n→∀ h:R[m]<L.length,DoneT T L a R L[R[m]] 3)∧SpM V wx w g Q X U rk L a d R ao)
 case atStart =>
  refine ⟨0,[f],ξ,γ,rfl,az.out,fun m _ h=>by omega, ?_⟩;refine ⟨?_, ?_, ?_,⟨?_, ?_, ?_⟩, ?_⟩
  ·have hz:=(HZ.out.1.set d hf).kept (Qb (o:=.cells #[I (f:Int)] 3) (Qb (o:=.cells #[.slice Q L.length X,.map (some U),.map (some rk)] 59) (Qe _)))
   have e:lab a d [f]=fun j=>if j=f then d else a j:=by
    funext j
    simp [lab]
   rw [e];exact hz
  ·have:=owns_one ((w.setCell ⟨g,f,none⟩ (I d)).alloc (.cells #[.slice Q L.length X,.map (some U),.map (some rk)] 59)) (w.heap.size+1) (I (f:Int)) ξ;simpa [rowN] using this
  ·have bs:Bl V (w.setCell ⟨g,f,none⟩ (I d)):=HZ.out.2.setCell (p:=⟨g,f,none⟩) ba _;exact Qb (Qb bs)
  ·simp [go_sem]
  ·simp [go_sem]
  ·simp [go_sem]
  ·simp
 case round =>
  clear az HZ z0 zf;obtain ⟨n,R,hn,cu,rfl,B,hD,hM⟩:=hrel;obtain ⟨vA,cb⟩:∃ u,u=u10:=⟨_,rfl⟩;subst cb;have br:0<R.length:=List.length_pos_of_mem B.1;obtain ⟨rb,rc,rfl,ca,an⟩:=hM.slice br;have ct:=B.len;have a8:Hid (Sp T L a f R∧∀ m (hm:m<R.length),m<n→∀ h:R[m]<L.length,DoneT T L a R L[R[m]] 3):=⟨B,hD⟩;have N:=Hd hM;obtain ⟨p0,p1,p2⟩:=hM.2.2.2.1;have zp:=Bt p0;by_cases h1:n<R.length
  ·have ac:=an n h1;have zr:=Bt ac;have ak:R[n]∈R:=Lm h1;obtain ⟨hi,_⟩:=B.2.2 R[n] ak;obtain ⟨i,ab⟩:∃ i,i=R[n]:=⟨_,rfl⟩;rw [← ab] at ac hi;have au:=Hd ab;have av:Hid (i∈R):=by rw [ab];exact ak
   clear B hD hM an ab ak;have i1:(n:Int)<(R.length:Int):=γ;have i0:(0:Int)≤(n:Int):=γ;obtain ⟨J,hJ⟩:∃ J,J=jl L L[i] i 3:=⟨_,rfl⟩
   have cp:J.length≤900:=by
    have:=jl_len L L[i] i 3;rw [hJ];omega
   have CJ:Hid (∀ c:World,Bl wr c→Cl 102 #[.agg #[.slice Q L.length X,.map (some U),.map (some rk)],I (i:Int)] c fun e w'=>∃ v,e=.returned v∧w'.ownsRow (c.heap.size+1) 105 5 v J.length (flatJ J)∧Bl c w'):=fun c s=>by
    rw [hJ];exact bn.out c i hi (Qc N.out.2.2.1 s)
   have HJ:=Hd hJ;clear hJ;go_wp2;go_cut [31,32,33] (fun cg ch ap wx=>∃ ja jc,cg=.slice ja J.length jc∧ch=I (J.length:Int)∧ap=I 0∧JW wx (w.heap.size+1) ja J∧Bl wr wx)
   case first =>
    go_region_held3 (fun w'=>At w' w.heap.size 0 (.slice Q L.length X)∧At w' w.heap.size 1 (.map (some U))∧At w' w.heap.size 2 (.map (some rk))∧At w' rb n (I (i:Int)))
     ((refine ⟨?_, ?_, ?_, ?_⟩ <;> (first | (with_reducible (repeat (first | assumption | refine Qk ?_ | refine Qq ?_));done) | (simp [go_sem];done))))
     ((go_at_call 102;refine (CJ.out _ φ).mono ?_;rintro e w8 ⟨v8,rfl,z,hb⟩;obtain ⟨ja,jc,rfl,E⟩:=own_jw z;have P:Bl wr w8:=Qc φ hb;have HQ:Hid (JW w8 wr.heap.size ja J∧Bl wr w8):=⟨E.mono ξ,P⟩;have cj:=Qa P p0;have cl:=Qa P p1;have cm:=Qa P p2;have cn:=Qa P ac;clear z E hb P))
    all_goals
     go_wp2;go_meet
     case rel=>exact ⟨_,_,rfl,rfl,rfl,(HQ.out.1.mono γ).kept φ,by with_reducible repeat (first | exact HQ.out.2 | refine Qg ?_)⟩
   case rest =>
    obtain ⟨ja,jc,rfl,rfl,rfl,E,b6⟩:=hcut;have ax:=Hd E;have b5:Hid (Bl wc wc):=Qe _;have a7:=Hd (N.out.kept b6);obtain ⟨WC,aa⟩:∃ W,W=wc:=⟨_,rfl⟩;rw [← aa] at ax a7 b5;clear E b6 p0 p1 p2 zp ca zr ac CJ N;have ae:Hid (Bl WC wc∧w.heap.size+1≤WC.heap.size):=⟨by rw [aa];exact Qe _,a7.out.2.2.2.2⟩;have ay:Hid (SpM V wc w g Q X U rk L a d R (.slice (Az rb) R.length rc)):=by rw [← aa];exact a7.out
    clear b5 a7 aa;go_wp2;go_loopg [10,33] J.length (fun gk ao ap wx=>∃ (m:Nat) (Y:List Nat),m≤J.length∧gk=J.length - m∧ap=I (m:Int)∧Sp T L a f (R ++ Y)∧(∀ F (h:F<J.length),F<m→∀ j:Nat,J[F].2=(j:Int)→T J[F].1=true→j∈R ++ Y∨0≤a j)∧SpM V wx w g Q X U rk L a d (R ++ Y) ao∧JW wx (w.heap.size+1) ja J)
    case atStart=>exact ⟨0,[],γ,rfl,rfl,by simpa using a8.out.1,fun F _ h=>by omega,by simpa using ay.out,ax.out.kept ae.out.1⟩
    case round =>
     clear ay ae;obtain ⟨m,Y,hm,rfl,rfl,B,hE,hM,E⟩:=hrel;obtain ⟨vC,cd⟩:∃ u,u=u10:=⟨_,rfl⟩;subst cd;have A:=H2 B hE;have N:=Hd hM;have HR:=Hd E;clear B hE hM E;by_cases hm1:m<J.length
     ·have im:(m:Int)<(J.length:Int):=γ;have d8:(0:Int)≤(m:Int):=γ;obtain ⟨jb,rfl,c0,c1,c2,c3,c4⟩:=HR.out.1 m hm1;have dd:=Bt c0;obtain ⟨q,hq⟩:∃ q,q=J[m]:=⟨_,rfl⟩;obtain ⟨⟨G,H,K,M⟩,qj⟩:=q;rw [← hq] at c0 c1 c2 c3 c4;dsimp only at c0 c1 c2 c3 c4;have HQ:=Hd hq;have ag:((G,H,K,M),qj)∈jl L L[i] i 3:=by rw [← HJ.out,hq];exact Lm hm1
      obtain ⟨k,hk,bf,j,hj,rfl,cw,be⟩:=Yz.1 ag;have aw:=H2 bf be;obtain ⟨lc,lf⟩:=N.out.1 j hj;have zg:=Bt lc;have db:g<wr.heap.size+1:=γ;have ij:(j:Int)<(L.length:Int):=γ;have d7:(0:Int)≤(j:Int):=γ;clear ag bf be hq;by_cases hlt:lab a d (R ++ Y) j<0
      ·have bc:j ∉ R ++ Y:=fun hh=>by
        simp only [lab,if_pos hh] at hlt;omega
       obtain ⟨sb,sc,rfl,cy,bk⟩:=N.out.slice (by rw [List.length_append];omega);have bw:n<(R ++ Y).length:=by rw [List.length_append];omega
       have sn:=bk n bw;rw [show (R ++ Y)[n]=i by rw [List.getElem_append_left h1];exact au.out.symm] at sn;have df:=Bt sn;have d9:(n:Int)<((R ++ Y).length:Int):=γ;clear bk;have bz:a j<0:=by simpa [lab,bc] using hlt
       obtain ⟨lv,O⟩:∃ lv,lv=lab a d (R ++ Y) j:=⟨_,rfl⟩;rw [← O] at lc hlt;have co:=Hd O;clear O
       cases hcr:T (G,H,K,M)
       ·have CC:Hid (∀ c:World,Bl wr c→Rt 92 #[I (i:Int),.agg #[I G,I H,I K,I M,I (j:Int)]] c (.bool false)):=fun c s=>hcr ▸ ar.out (i:Int) G H K M (j:Int) c (Qc N.out.2.2.1 s);go_wp2;refine Qi (fun r hW1=>?_);have b:Bl wr r:=by rw [hW1];exact Qb (Qe _)
        have d0:At r wr.heap.size 0 (I G):=γ2;have d1:At r wr.heap.size 1 (I H):=γ2;have d2:At r wr.heap.size 2 (I K):=γ2;have d3:At r wr.heap.size 3 (I M):=γ2;have d4:At r wr.heap.size 4 (I (j:Int)):=γ2;have a6:=Qa b lc;have zn:=Bt d0;have bm:=Bt a6;have aq:=Qa b sn;have ci:=Bt aq;have D:=H2 (N.out.kept b) (HR.out.kept b);have bj:decide (lv<0)=true:=decide_eq_true hlt;have C1:Hid (∀ c:World,Bl r c→Rt 92 #[I (i:Int),.agg #[I G,I H,I K,I M,I (j:Int)]] c (.bool false)):=fun c s=>CC.out c (Qc b s);clear hW1 b c0 c1 c2 c3 c4 lc lf sn;obtain ⟨kc,kn⟩:=kcn r;refine wk ?_;repeat (go_big_quiet_step ((go_at_call 92;exact Qf (C1.out _ (Kin.h _)))))
        refine kq1 (fun w5 hq=>?_);clear kc kn;have l:=H2 (D.out.1.kept hq) (D.out.2.kept hq);go_wp2;go_roundg (J.length - (m+1))
        case measure=>omega
        case rel =>
         refine ⟨m+1,Y,γ,rfl,σ,A.out.1,fun F h' Z j' y x=>?_,l.out.1,l.out.2⟩;by_cases em:F=m
         ·subst em;rw [← HQ.out] at x;simp only at x;rw [hcr] at x;exact absurd x ξ
         ·exact A.out.2 F h' γ j' y x
       ·have CC:Hid (∀ c:World,Bl wr c→Rt 92 #[I (i:Int),.agg #[I G,I H,I K,I M,I (j:Int)]] c (.bool true)):=fun c s=>hcr ▸ ar.out (i:Int) G H K M (j:Int) c (Qc N.out.2.2.1 s)
        have HF:Hid (Sp T L a f (R ++ (Y ++ [j]))):=by
         have:=A.out.1.found bp.out (i:=i) (j:=j) (List.mem_append_left _ av.out) hj bc bz (e:=(G,H,K,M)) hcr (fun cv=>by
          rw [aw.out.1];exact Jc _ _) aw.out.2
         rwa [List.append_assoc] at this
        have af:(R ++ Y).length+1≤1000:=by
         have:=A.out.1.len;omega
        go_wp2;refine Qi (fun r hW1=>?_);have b:Bl wr r:=by rw [hW1];exact Qb (Qe _)
        have d0:At r wr.heap.size 0 (I G):=γ2;have d1:At r wr.heap.size 1 (I H):=γ2;have d2:At r wr.heap.size 2 (I K):=γ2;have d3:At r wr.heap.size 3 (I M):=γ2;have d4:At r wr.heap.size 4 (I (j:Int)):=γ2;have a6:=Qa b lc;have zn:=Bt d0;have bm:=Bt a6;have aq:=Qa b sn;have ci:=Bt aq;have D:=H2 (N.out.kept b) (HR.out.kept b);have bj:decide (lv<0)=true:=decide_eq_true hlt;have C1:Hid (∀ c:World,Bl r c→Rt 92 #[I (i:Int),.agg #[I G,I H,I K,I M,I (j:Int)]] c (.bool true)):=fun c s=>CC.out c (Qc b s);clear hW1 b c0 c1 c2 c3 c4 lc lf sn;obtain ⟨kc,kn⟩:=kcn r;refine wk ?_;repeat (go_big_quiet_step ((go_at_call 92;exact Qf (C1.out _ (Kin.h _)))))
        refine kq1 (fun w5 hq=>?_);clear kc kn;have l:=H2 (D.out.1.kept hq) (D.out.2.kept hq);have d5:=Qa hq d4;have de:=Bt d5;obtain ⟨ce,da⟩:=l.out.1.1 j hj;have dc:=Bt ce;clear hq;go_wp2_with (at_builtin;refine wpList_append_own _ rfl (.tmp 57) (.tmp 60) 22 rfl (w.heap.size+1) 3 i3 (I 0) 1 8 Tryz.underlying22 HI.out.1 HI.out.2.1 HI.out.2.2.1 HI.out.2.2.2 rfl ψ (.slice (Az sb) (R ++ Y).length sc) (R ++ Y).length (rowN (R ++ Y)) rfl ?own ⟨w5.heap.size,0,none⟩ 1 1 [I (j:Int)] rfl rfl ?c1 ?c2 ?b1 ?b2 ?b3 ?grow)
        case own =>
         try rw [← List.length_append]
         exact (l.out.1.2.1.kept (Ql _ g j _) (by
          cases hu:(Value.slice (Az sb) (R ++ Y).length sc).ownBlock with
          | none=>exact Or.inl rfl
          | some q =>
           refine Or.inr (fun e1=>?_);have:=(l.out.1.2.1.lt q hu).1;simp at e1;omega)).alloc _
        case c1=>exact Yd _ δ
        case c2=>exact Xx _
        case b1 =>
         unfold maxLen;first | omega | (rw [List.length_append] at af;omega)
        case b2=>first | omega | (rw [List.length_append] at af;omega)
        case b3 =>
         have:=l.out.1.2.2.2.2;simp;omega
        case grow =>
         intro v' w3 z C _;rw [← List.length_append] at z;try rw [← List.length_append] at C
         have bo:Hid (SpM V w3 w g Q X U rk L a d (R ++ (Y ++ [j])) v'):=by
          have:=l.out.1.more bu ba hj β1 C z;rwa [List.append_assoc] at this
         have bq:Hid (JW w3 (w.heap.size+1) (Az jb) J):=by
          have h0:=l.out.2.grown (Ql w5 g j (I d)) (fun g' bt e1=>by
           have h2:=(l.out.2.2 g' e1).1;simp at bt;omega)
          have h1:JW w3 (w.heap.size+1) (Az jb) J:=(h0.kept β1).grown C (l.out.2.not_row l.out.1.2.1);exact h1
         clear z C;go_wp2;go_roundg (J.length - (m+1))
         case measure=>omega
         case rel =>
          have a2:∀ q∈R ++ Y,q∈R ++ (Y ++ [j]):=fun q hq=>by
           rw [← List.append_assoc];exact List.mem_append_left _ hq
          refine ⟨m+1,Y ++ [j],γ,rfl,σ,HF.out,fun F h' Z j' y x=>?_,bo.out,bq.out⟩;by_cases em:F=m
          ·subst em;rw [← HQ.out] at y;simp only at y;have:j'=j:=γ;subst this;exact Or.inl ξ
          ·exact (A.out.2 F h' γ j' y x).imp (a2 j') id
      ·have am:Hid (j∈R ++ Y∨0≤a j):=by
        by_cases hh:j∈R ++ Y
        ·exact Or.inl hh
        ·exact Or.inr (by simp only [lab,if_neg hh] at hlt;omega)
       obtain ⟨lv,O⟩:∃ lv,lv=lab a d (R ++ Y) j:=⟨_,rfl⟩;rw [← O] at lc hlt;clear O;go_wp2;refine Qi (fun r hW1=>?_);have b:Bl wr r:=by rw [hW1];exact Qb (Qe _)
       have d0:At r wr.heap.size 0 (I G):=γ2;have d1:At r wr.heap.size 1 (I H):=γ2;have d2:At r wr.heap.size 2 (I K):=γ2;have d3:At r wr.heap.size 3 (I M):=γ2;have d4:At r wr.heap.size 4 (I (j:Int)):=γ2;have a6:=Qa b lc;have zn:=Bt d0;have bm:=Bt a6;have D:=H2 (N.out.kept b) (HR.out.kept b);have bj:decide (lv<0)=false:=decide_eq_false γ;clear hW1 b c0 c1 c2 c3 c4 lc lf;obtain ⟨kc,kn⟩:=kcn r;refine wk ?_;repeat (go_big_quiet_step (fail))
       refine kq1 (fun w5 hq=>?_);clear kc kn;have l:=H2 (D.out.1.kept hq) (D.out.2.kept hq);go_wp2;go_roundg (J.length - (m+1))
       case measure=>omega
       case rel =>
        refine ⟨m+1,Y,γ,rfl,σ,A.out.1,fun F h' Z j' y x=>?_,l.out.1,l.out.2⟩;by_cases em:F=m
        ·subst em;rw [← HQ.out] at y;simp only at y;have:j'=j:=γ;subst this;exact am.out
        ·exact A.out.2 F h' γ j' y x
     ·have im:¬ (m:Int)<(J.length:Int):=γ;obtain rfl:m=J.length:=γ;go_wp2;go_roundg (L.length - (n+1))
      case measure=>omega
      case rel =>
       have a2:∀ q∈R,q∈R ++ Y:=fun q hq=>List.mem_append_left _ hq;refine ⟨n+1,R ++ Y,by rw [List.length_append];omega,γ,σ,A.out.1,fun m hm cx bv=>?_,N.out⟩;by_cases em:m=n
       ·subst em;have e1:(R ++ Y)[m]=i:=by rw [List.getElem_append_left h1];exact au.out.symm
        simp only [e1];refine DoneT.joints (i:=i) (List.mem_append_left _ av.out) (fun F Z j' y x=>?_);have h8:=A.out.2;rw [HJ.out] at h8;exact h8 F Z Z j' y x
       ·have bg:m<R.length:=γ;have e1:(R ++ Y)[m]=R[m]:=List.getElem_append_left bg;have h7:=(a8.out.2 m bg γ (by rw [← e1];exact bv)).mono a2;simp only [e1];exact h7
  ·have i1:¬ (n:Int)<(R.length:Int):=γ;clear hM B hD an;go_wp2;go_end0
   refine ⟨rfl,R,a8.out.1,N.out.1,fun i hi h=>?_,N.out.2.2.1⟩;obtain ⟨m,hm,he⟩:=List.getElem_of_mem hi;subst he;exact a8.out.2 m hm γ h
def PartsOk (cr:E4→Bool) (L:List T3) (part:Nat→Int):Prop :=
 (∀ a,a<L.length→0≤part a)∧(∀ a b (ha:a<L.length) (hb:b<L.length),AdjC cr L[a] L[b]→part b=part a) ∧
 (∀ a b (ha:a<L.length) (hb:b<L.length),part a=part b→ReachC cr L L[a] L[b])∧(∀ a,a<L.length→∀ c,0≤c→c<part a→∃ b,b<a∧part b=c)
def PInv (cr:E4→Bool) (L:List T3) (part:Nat→Int) (i c:Nat):Prop :=
 (∀ a,a<L.length→a<i→0≤part a)∧(∀ a b (ha:a<L.length) (hb:b<L.length),AdjC cr L[a] L[b]→0≤part a→part b=part a) ∧
 (∀ a b (ha:a<L.length) (hb:b<L.length),0≤part a→part a=part b→ReachC cr L L[a] L[b])∧(∀ a,a<L.length→part a<c)∧(∀ a,a<L.length→∀ d,0≤d→d<part a→∃ b,b<a∧part b=d)∧(∀ d:Int,0≤d→d<c→∃ b,b<i∧part b=d)
theorem pinv_start (c:E4→Bool) (L:List T3):PInv c L (fun _=>-1) 0 0 :=
 ⟨fun a _ h=>by omega,fun a b _ _ _ h=>by simp at h,fun a b _ _ h=>by simp at h,fun a _=>by simp,fun a _ d h1 h2=>by simp at h2;omega,fun d h1 h2=>by simp at h2;omega⟩
theorem PInv.skip {g:E4→Bool} {f:Nat→Int} (h:PInv g L f i c) (hp:0≤f i):PInv g L f (i+1) c:=by
 obtain ⟨h1,h2,h3,h4,h5,h6⟩:=h;refine ⟨fun a j hi=>?_,h2,h3,h4,h5,fun d l k=>?_⟩
 ·by_cases e:a=i
  ·rw [e];exact hp
  ·exact h1 a j γ
 ·obtain ⟨b,n,m⟩:=h6 d l k;exact ⟨b,γ,m⟩
theorem PInv.done {j:E4→Bool} {f:Nat→Int} (h:PInv j L f L.length c):PartsOk j L f:=by
 obtain ⟨h1,h2,h3,h4,h5,h6⟩:=h;exact ⟨fun a d=>h1 a d d,fun a b d i g=>h2 a b d i g (h1 a d d),fun a b d i e=>h3 a b d i (h1 a d d) e,h5⟩
theorem PInv.next {y:E4→Bool} {j:Nat→Int} {R:List Nat} (h:PInv y L j i c) (_hk:∀ t∈L,Kd t) (_hnd:L.Nodup) (_hi:i<L.length) (_hp:j i<0) (z:Sp y L j i R) (hD:∀ a∈R,∀ l:a<L.length,DoneT y L j R L[a] 3):PInv y L (lab j (c:Int) R) (i+1) (c+1):=by
 obtain ⟨h1,h2,h3,h4,h5,h6⟩:=h;have m:∀ a,a∈R→lab j (c:Int) R a=c:=fun a l=>by simp [lab,l]
 have g:∀ a,a ∉ R→lab j (c:Int) R a=j a:=fun a l=>by simp [lab,l]
 have s:∀ a,a∈R→∃ l:a<L.length,j a<0∧i≤a:=fun a l=>by
  obtain ⟨G,C,_⟩:=z.2.2 a l;refine ⟨G,C, ?_⟩;rcases Nat.lt_or_ge a i with q | q
  ·have:=h1 a G q;omega
  ·exact q
 have A:∀ a b (l:a<L.length) (o:b<L.length),AdjC y L[a] L[b]→a∈R→b∈R:=fun a b l o p f=>by
  obtain ⟨F,e,e1,e2,e3⟩:=p;obtain ⟨k,E,B⟩:=Vw e1;have v:=hD a f l k E (by rw [B];exact e3) b o (by rw [B];exact e2);rcases v with v | v
  ·exact v
  ·have G:=h2 b a o l (AdjC.symm ⟨F,e,e1,e2,e3⟩) v;obtain ⟨_,C,_⟩:=s a f;omega
 refine ⟨fun a l H=>?_,fun a b l o p u=>?_,fun a b l o u D=>?_,fun a l=>?_,fun a l d v x=>?_,fun d v J=>?_⟩
 ·by_cases f:a∈R
  ·rw [m a f];omega
  ·rw [g a f];by_cases e:a=i
   ·exact absurd (e ▸ z.1) f
   ·exact h1 a l γ
 ·by_cases f:a∈R
  ·rw [m a f,m b (A a b l o p f)]
  ·rw [g a f] at u ⊢;have n:b ∉ R:=fun q=>f (A b a o l p.symm q);rw [g b n];exact h2 a b l o p u
 ·by_cases f:a∈R
  ·by_cases n:b∈R
   ·obtain ⟨_,_,_,r1⟩:=z.2.2 a f;obtain ⟨_,_,_,r2⟩:=z.2.2 b n;exact r1.symm.trans r2
   ·rw [m a f,g b n] at D;have:=h4 b o;omega
  ·by_cases n:b∈R
   ·rw [g a f,m b n] at D;have:=h4 a l;omega
   ·rw [g a f,g b n] at D;rw [g a f] at u;exact h3 a b l o u D
 ·by_cases f:a∈R
  ·rw [m a f];omega
  ·rw [g a f];have:=h4 a l;omega
 ·by_cases f:a∈R
  ·rw [m a f] at x;obtain ⟨b,o,r⟩:=h6 d v x;obtain ⟨_,_,K⟩:=s a f;refine ⟨b,γ, ?_⟩;rw [g b (fun q=>by obtain ⟨_,C,_⟩:=s b q;omega)];exact r
  ·rw [g a f] at x;obtain ⟨b,o,r⟩:=h5 a l d v x;refine ⟨b,o, ?_⟩;rw [g b (fun q=>by obtain ⟨_,C,_⟩:=s b q;omega)];exact r
 ·by_cases e:d=c
  ·exact ⟨i,γ,by rw [m i z.1,e]⟩
  ·obtain ⟨b,o,r⟩:=h6 d v γ;refine ⟨b,γ, ?_⟩;rw [g b (fun q=>by obtain ⟨_,C,_⟩:=s b q;omega)];exact r
theorem rp_zrow {z:Int} (h:w.heap[g]?=some (.cells (rp z n n).toArray 3 (0,0))):ZRow w g n (fun _=>z):=fun i hi=>by
 have e:rp z n n=List.replicate n (I z):=by simp [rp]
 rw [e] at h;refine ⟨?_, ?_⟩
 ·simp [World.cell?,h,hi]
 ·simp [World.frozen?,h]
theorem joined1_any (n a b c d t:Int) (w:World):Rt 92 #[I n,.agg #[I a,I b,I c,I d,I t]] w (.bool true):=by
 go_enter Tryz.func92,Tryz.ntmps92;go_wp2;go_ret;exact ⟨rfl,Qb (Qe _)⟩
theorem parts_all (w:World) (j k m:Nat) (b:Option Addr) (L:List T3) (v:E4→Bool) (hs:Steps w) (F:PA w b k L) (hL:L.length≤300) (z:L.Nodup) (x:∀ t∈L,(0≤t.1∧t.1≤8)∧(0≤t.2.1∧t.2.1≤8)∧(0≤t.2.2∧t.2.2≤3))
  (E:∀ (X A B C M Y:Int) (K:World),Bl w K→Rt 92 #[I X,.agg #[I A,I B,I C,I M,I Y]] K (.bool (v (A,B,C,M)))) :
  Cl 46 #[.agg #[.slice b L.length j,.map (some k),.map (some m)],.func (.func 92) #[] #[]] w fun e w'=>∃ g a,e=.returned (.slice (Az g) L.length L.length)∧ZRow w' g L.length a∧PartsOk v L a∧w.heap.size≤g∧Bl w w':=by
 have q:Bl w ((w.alloc (.cells #[.slice b L.length j,.map (some k),.map (some m)] 59)).alloc (.cells #[I (-1)] 3)):=Qb β1
 have D:Hid (∀ (g f:Nat) (a:Nat→Int) (l:Int) (s:World),Below ((w.alloc (.cells #[.slice b L.length j,.map (some k),.map (some m)] 59)).alloc (.cells #[I (-1)] 3)).heap.size ((w.alloc (.cells #[.slice b L.length j,.map (some k),.map (some m)] 59)).alloc (.cells #[I (-1)] 3)) s→((w.alloc (.cells #[.slice b L.length j,.map (some k),.map (some m)] 59)).alloc (.cells #[I (-1)] 3)).heap.size≤g→ZRow s g L.length a→f<L.length→a f<0→(0≤l∧l≤1000)→Cl 95 #[.agg #[.slice b L.length j,.map (some k),.map (some m)],.slice (Az g) L.length L.length,I (f:Int),I l,.func (.func 92) #[] #[]] s fun e w'=>e=.returned (.tuple #[])∧∃ R,Sp v L a f R∧ZRow w' g L.length (lab a l R)∧(∀ i∈R,∀ h:i<L.length,DoneT v L a R L[i] 3)∧Below ((w.alloc (.cells #[.slice b L.length j,.map (some k),.map (some m)] 59)).alloc (.cells #[I (-1)] 3)).heap.size ((w.alloc (.cells #[.slice b L.length j,.map (some k),.map (some m)] 59)).alloc (.cells #[I (-1)] 3)) w'):=fun g f a l s h1 h2 h3 h4 h5 h6 =>
  spread_all ((w.alloc (.cells #[.slice b L.length j,.map (some k),.map (some m)] 59)).alloc (.cells #[I (-1)] 3)) s g j k m f b L a l v (hs.kept q) (F.kept q) h1 h2 h3 h4 h5 h6 hL z x (fun X A B C M Y K T=>E X A B C M Y K (Qc q T))
 have P:Hid (∀ t∈L,Kd t):=fun t ht=>(x t ht).2.2;have O:=Hd z;clear hs F q z x E;go_enter Tryz.func46,Tryz.ntmps46;go_wp2_with (go_at_call 86;refine (repeat_any (-1) (w.heap.size+1) L.length _ γ δ).mono ?_;rintro e w1 ⟨rfl,r,U⟩;have o:=H2 (rp_zrow r) U;have p0:At w1 w.heap.size 0 (.slice b L.length j):=Qa U δ;clear r U)
 obtain ⟨p,d⟩:∃ W,W=((w.alloc (.cells #[.slice b L.length j,.map (some k),.map (some m)] 59)).alloc (.cells #[I (-1)] 3)):=⟨_,rfl⟩;have A:At p w.heap.size 0 (.slice b L.length j):=by rw [d];simp [go_sem]
 have B:At p w.heap.size 1 (.map (some k)):=by rw [d];simp [go_sem]
 have C:At p w.heap.size 2 (.map (some m)):=by rw [d];simp [go_sem]
 have hz:p.heap.size=w.heap.size+2:=by rw [d];simp
 have N:Hid (Bl w p):=by rw [d];exact Qb β1
 rw [← d] at D o;have Q:=H3 A B C;obtain ⟨g,hg⟩:∃ g,g=w.heap.size+1+1:=⟨_,rfl⟩;rw [show p.heap.size=g by omega] at o;have HG:Hid (g=w.heap.size+1+1∧p.heap.size=g):=⟨hg,γ⟩;rw [← hg];clear d A B C hg hz;go_wp2;go_loopg [6,16] L.length (fun gk s6 Z s=>∃ (i:Nat) (c:Nat) (a:Nat→Int),i≤L.length∧gk=L.length - i∧Z=I (i:Int)∧s6=I (c:Int)∧c≤i∧PInv v L a i c∧ZRow s g L.length a∧Bl p s)
 case atStart=>exact ⟨0,0,_,γ,rfl,rfl,rfl,γ,pinv_start _ _,o.out.1,o.out.2⟩
 case round =>
  clear o p0;obtain ⟨i,c,a,hi,rfl,rfl,rfl,a2,hI,hZ,hB⟩:=hrel;have n:=H3 hI hZ hB;clear hI hZ hB;have p0:At wr w.heap.size 0 (.slice b L.length j):=Qa n.out.2.2 Q.out.1;have p1:At wr w.heap.size 1 (.map (some k)):=Qa n.out.2.2 Q.out.2.1;have p2:At wr w.heap.size 2 (.map (some m)):=Qa n.out.2.2 Q.out.2.2;by_cases h1:i<L.length
  ·have i1:(i:Int)<(L.length:Int):=γ;have i0:(0:Int)≤(i:Int):=γ;obtain ⟨zc,_⟩:=n.out.2.1 i h1;obtain ⟨V,y⟩:∃ V,V=a i:=⟨_,rfl⟩;rw [← y] at zc;have u:=Hd y;clear y;by_cases hneg:V<0
   ·go_wp2_with (go_at_call 95;refine (D.out g i a (c:Int) _ n.out.2.2 (by rw [HG.out.2];exact Nr _) n.out.2.1 h1 (by rw [← u.out];exact hneg) γ).mono ?_;rintro e w2 ⟨rfl,R,G,H,hD,J⟩;have HN:Hid (PInv v L (lab a (c:Int) R) (i+1) (c+1)∧ZRow w2 g L.length (lab a (c:Int) R)∧Bl p w2):=⟨n.out.1.next P.out O.out h1 (by rw [← u.out];exact hneg) G hD,H,J⟩;clear G H hD J)
    go_roundg (L.length - (i+1))
    case measure=>omega
    case rel=>exact ⟨i+1,c+1,_,γ,rfl,σ,σ,γ,HN.out⟩
   ·go_wp2;go_roundg (L.length - (i+1))
    case measure=>omega
    case rel=>exact ⟨i+1,c,a,γ,rfl,σ,rfl,γ,n.out.1.skip (by rw [← u.out];omega),n.out.2⟩
  ·have i1:¬ (i:Int)<(L.length:Int):=γ;obtain rfl:i=L.length:=γ;go_wp2;go_ret;exact ⟨g,rfl,a,n.out.2.1,n.out.1.done,by have:=HG.out.1;omega,Qc N.out n.out.2.2⟩
theorem max_zero:∀ (l:List Int) (a:Int),(∀ x∈l,0≤x)→0≤a→(l.foldl max a=0↔a=0∧∀ x∈l,x=0)
 | [],a,_,_=>by simp
 | x :: r,a,h,ha=>by
  have d:=h x ξ;have c:=max_zero r (max a x) (fun y b=>h y (by simp [b])) γ;rw [List.foldl_cons,c];constructor
  ·rintro ⟨h1,h2⟩;refine ⟨γ,fun y b=>?_⟩;rcases List.mem_cons.1 b with rfl | b
   ·omega
   ·exact h2 y b
  ·rintro ⟨h1,h2⟩;refine ⟨?_,fun y b=>h2 y (by simp [b])⟩;have:=h2 x ξ;omega
theorem maxOf_zero {l:List Int} (b:l≠[]) (h:∀ x∈l,0≤x):Lib.maxOf l=0↔∀ x∈l,x=0:=by
 cases l with
 | nil=>exact absurd rfl b
 | cons a r =>
  unfold Lib.maxOf;rw [List.headD_cons,max_zero _ _ h (h a ξ)];exact ⟨fun q=>q.2,fun q=>⟨q a ξ,q⟩⟩
theorem parts_joined {c:Nat→Int} (h:PartsOk (fun _=>true) L c) (f:L.Nodup) (h0:0<L.length):(∀ a,a<L.length→c a=0)↔Joined L:=by
 obtain ⟨h1,h2,h3,h4⟩:=h
 have j:c 0=0:=by
  rcases Int.lt_or_le 0 (c 0) with q | q
  ·obtain ⟨b,g,_⟩:=h4 0 h0 0 (Int.le_refl _) q;omega
  ·have:=h1 0 h0;omega
 exact reached_joined h0 (fun a=>c a=0) j (fun a e q=>reach_all.1 (h3 0 a h0 e (by rw [j,q]))) (fun a b e g q d=>by
  have:=h2 a b e g ⟨d.1,d.2.imp fun _ i=>⟨i.1,i.2,rfl⟩⟩;omega) f
theorem Uw (w:World) (v s B:Nat) (o:Option Addr) (L:List T3) (hs:Steps w) (i:PA w o s L) (E:L.length≤300) (d:L.Nodup) (l:∀ t∈L,(0≤t.1∧t.1≤8)∧(0≤t.2.1∧t.2.1≤8)∧(0≤t.2.2∧t.2.2≤3)) :
  Cl 43 #[.agg #[.slice o L.length v,.map (some s),.map (some B)]] w fun e w'=>∃ bb:Bool,e=.returned (.bool bb)∧(bb=true↔Joined L)∧Bl w w':=by
 have C:Hid (∀ h:World,Bl w h→Cl 46 #[.agg #[.slice o L.length v,.map (some s),.map (some B)],.func (.func 92) #[] #[]] h fun e w'=>∃ g b,e=.returned (.slice (Az g) L.length L.length)∧ZRow w' g L.length b∧PartsOk (fun _=>true) L b∧h.heap.size≤g∧Bl h w'):=fun h c=>parts_all h v s B o L (fun _=>true) (hs.kept c) (i.kept c) E d l (fun J K M A N O D _=>joined1_any J K M A N O D);have u:=Hd d;clear hs i d l;by_cases h0:0<L.length
 ·have H:(0:Int)<(L.length:Int):=γ;go_enter Tryz.func43,Tryz.ntmps43
  go_wp2_with (first
   | (go_at_call 46;refine (C.out _ Θ).mono ?_;rintro e w1 ⟨g,b,rfl,r,p,hg,c⟩;have f:=H3 r p (Qc β1 c);clear r p c hg)
   | (go_at_call 20;refine (Tryz.slices_Max_int g 0 L.length L.length ((List.range L.length).map b) _ h0 ξ γ (fun j F=>by
     have m:j<L.length:=by simpa using F
     rw [Nat.zero_add,(f.out.1 j m).1];simp [m])).mono ?_;rintro e P ⟨rfl,n⟩;have y:=n.symm;clear n;subst y))
  go_ret
  have G:(Lib.maxOf (((List.range L.length).map b).take L.length)=0)↔Joined L:=by
   rw [List.take_of_length_le ξ,maxOf_zero (fun q=>by
    have A:=congrArg List.length q;rw [List.length_map,List.length_range,List.length_nil] at A;omega) (fun x z=>by
    obtain ⟨a,k,rfl⟩:=List.mem_map.1 z;exact f.out.2.1.1 a (by simpa using k))]
   rw [← parts_joined f.out.2.1 u.out h0];constructor
   ·intro q a k;exact q _ (List.mem_map.2 ⟨a,by simpa using k,rfl⟩)
   ·intro q x z;obtain ⟨a,k,rfl⟩:=List.mem_map.1 z;exact q a (by simpa using k)
  refine ⟨_,rfl, ?_,f.out.2.2⟩;rw [← G];simp
 ·have H:¬ (0:Int)<(L.length:Int):=γ;go_enter Tryz.func43,Tryz.ntmps43;go_wp2_with (go_at_call 46;refine (C.out _ Θ).mono ?_;rintro e w1 ⟨g,b,rfl,r,p,hg,c⟩;have f:=Hd (Qc β1 c);clear r p c hg)
  go_ret;refine ⟨_,rfl,⟨fun q=>?_,fun q=>absurd q.1 h0⟩,f.out⟩;first | exact Bool.noConfusion q | (exfalso;simp at q;done) | (exfalso;simp at q;omega)
abbrev EL:=List (E4×Value×Nat)
theorem blkE_same (h:r<w.heap.size) (o:Obj):(setBlock w r o).heap[r]?=some o:=by
 simp [setBlock,h]
theorem Kb (h:i≠r) (o:Obj):(setBlock w r o).heap[i]?=w.heap[i]?:=by
 simp [setBlock,Ne.symm h]
theorem blkE_grown (w:World) (r:Nat) (o:Obj):w.grownBy (setBlock w r o) (some r) :=
 ⟨rfl,rfl,rfl,by simp [setBlock],fun k _ a=>Kb (fun e=>a (by rw [e])) o⟩
def AllE (ls:EL) (seen:List Nat):Prop := ∀ x∈ls,x.2.2∈seen
def OneE (ls:EL) (seen:List Nat) (e:E4) (xv:Value) (st:Nat):Prop:=(e,xv,st)∈ls∧st ∉ seen
def StepE (w w':World) (rm r c:Nat) (ls:EL) (seen:List Nat) (st:Nat):Prop:=EM w' rm ls c∧w'.heap[r]?=some (.mapIter (some rm) c (seen ++ [st]).toArray c)∧w.grownBy w' (some r)
theorem wpList_next_em {l:Array Oper} {rest:List Oper} {o:Oper} {a:Act} {Q:Exit→Act→World→Prop} (hg:o.guard=none) (it:Operand) (v:o.op=Op.next it false) (d r c:Nat) (ls:EL) (b:List Nat)
  (s:a.eval it=.pointer (Az r)) (B:EM w d ls c) (hr:w.heap[r]?=some (.mapIter (some d) c b.toArray c)) (F:Good ls c) (t:r≠d)
  (i:AllE ls b→wpList Tryz.prog l Q rest (a.put o.dst (.tuple #[.bool false])) w)
  (j:∀ (e0 e1 e2 e3:Int) (n:Value) (h:Nat) (w':World),OneE ls b (e0,e1,e2,e3) n h→StepE w w' d r c ls b h→(Instr.entry (.pointer (Az r))).run Tryz.prog w'=.ok (.tuple #[.agg #[I e0,I e1,I e2,I e3],n]) w' →
   wpList Tryz.prog l Q rest (a.put o.dst (.tuple #[.bool true,.agg #[I e0,I e1,I e2,I e3],n])) w'):wpList Tryz.prog l Q (o :: rest) a w:=by
 refine wpList_plain hg fun K q=>?_;unfold Oper.wp
 have hold:∀ x∈((ls.map toE).toArray).toList,x.born<c:=fun x g=>by
  simp only [List.mem_map] at g;obtain ⟨y,J,rfl⟩:=g;exact F.2.2 y J
 rcases run_next_at (P:=Tryz.prog) w o.type r d c c b.toArray _ c hr B hold (Nr _) with ⟨h0,f⟩ | ⟨e,z,w1,D,f⟩
 ·simp [execOp,v,s,f,Result.andThen];refine q _ _ (i (fun x g=>?_));have:leftOf (ls.map toE).toArray b.toArray=#[]:=Array.eq_empty_of_size_eq_zero h0;unfold leftOf at this;rw [Array.filter_eq_empty_iff] at this;have:=this (toE x) (by rw [List.mem_toArray];exact List.mem_map.2 ⟨x,g,rfl⟩);simpa [toE] using this
 ·have A:∃ x∈ls,x.2.2 ∉ b∧toE x=e:=by
   unfold leftOf at z;simp only [Array.toList_filter,List.mem_filter,List.mem_map] at z;obtain ⟨⟨x,g,rfl⟩,hs⟩:=z;exact ⟨x,g,by simpa [toE] using hs,rfl⟩
  obtain ⟨x,g,E,rfl⟩:=A
  have C:EM w1 d ls c∧w1.heap[r]?=some (.mapIter (some d) c b.toArray c)∧w.grownBy w1 none:=by
   rcases D with rfl | rfl
   ·exact ⟨B,hr,Qy (Qe _)⟩
   ·exact ⟨B,hr,Qy (Qg (Qe _))⟩
  obtain ⟨H,r1,m⟩:=C;simp [execOp,v,s,f,Result.andThen];obtain ⟨⟨e0,e1,e2,e3⟩,n,h⟩:=x;refine q _ _ (j e0 e1 e2 e3 n h _ ⟨g,E⟩ ⟨?_, ?_, ?_⟩ ?_)
  ·exact (Kb (Ne.symm t) _).trans H
  ·have:=blkE_same (w:=w1) (Array.getElem?_eq_some_iff.1 r1).1 (.mapIter (some d) c (b ++ [h]).toArray c);exact this
  ·have p:=blkE_grown w1 r (.mapIter (some d) c (b ++ [h]).toArray c);exact ⟨p.os.trans m.os,p.tape.trans m.tape,p.output.trans m.output,Nt m.size p.size,fun k G u=>(p.block k (Nl G m.size) u).trans (m.block k G ξ)⟩
  ·have e1:=run_entry_at (P:=Tryz.prog) (setBlock w1 r (.mapIter (some d) c (b ++ [h]).toArray c)) r d c b.toArray (ls.map toE).toArray c (toE ((e0,e1,e2,e3),n,h)) (by
    have:=blkE_same (w:=w1) (Array.getElem?_eq_some_iff.1 r1).1 (.mapIter (some d) c (b ++ [h]).toArray c);rw [this];simp [toE]) ((Kb (Ne.symm t) _).trans H) (by simpa using List.mem_map.2 ⟨_,g,rfl⟩) (by
    have:=F.2.1;simpa [List.map_map,toE,Function.comp_def] using this)
   exact e1
def stampE (vis:EL):List Nat:=vis.map (fun x=>x.2.2)
theorem stampE_add (a:EL) (x:E4×Value×Nat):stampE (a ++ [x])=stampE a ++ [x.2.2]:=by simp [stampE]
theorem sub_lenE:∀ (a b:List Nat),a.Nodup→(∀ x∈a,x∈b)→a.length≤b.length
 | [],_,_,_=>Nat.zero_le _
 | x :: a,b,hn,hs=>by
  rw [List.nodup_cons] at hn;have:=sub_lenE a (b.erase x) hn.2 fun y c=>(List.mem_erase_of_ne (fun (e:y=x)=>hn.1 (e ▸ c))).2 (hs y (by simp [c]));rw [List.length_erase_of_mem (hs x ξ)] at this;have:=List.length_pos_of_mem (hs x ξ);rw [List.length_cons];omega
theorem keyE_inj {ls:EL} (h:(ls.map (fun x=>x.1)).Nodup):∀ {a b},a∈ls→b∈ls→a.1=b.1→a=b:=by
 induction ls with
 | nil=>intro a b f;cases f
 | cons x l ih =>
  intro a b f g e;rw [List.map_cons,List.nodup_cons] at h;rcases List.mem_cons.1 f with e1 | d
  ·rcases List.mem_cons.1 g with e2 | c
   ·rw [e1,e2]
   ·exact absurd (List.mem_map.2 ⟨b,c,by rw [← e,e1]⟩) h.1
  ·rcases List.mem_cons.1 g with e2 | c
   ·exact absurd (List.mem_map.2 ⟨a,d,by rw [e,e2]⟩) h.1
   ·exact ih h.2 d c e
theorem stampE_inj {ls:EL} (h:(ls.map (fun x=>x.2.2)).Nodup):∀ {a b},a∈ls→b∈ls→a.2.2=b.2.2→a=b:=by
 induction ls with
 | nil=>intro a b f;cases f
 | cons x l ih =>
  intro a b f g e;rw [List.map_cons,List.nodup_cons] at h;rcases List.mem_cons.1 f with e1 | d
  ·rcases List.mem_cons.1 g with e2 | c
   ·rw [e1,e2]
   ·exact absurd (List.mem_map.2 ⟨b,c,by rw [← e,e1]⟩) h.1
  ·rcases List.mem_cons.1 g with e2 | c
   ·exact absurd (List.mem_map.2 ⟨a,d,by rw [e,e2]⟩) h.1
   ·exact ih h.2 d c e
def VisE (ls vis:EL):Prop:=(∀ x∈vis,x∈ls)∧(stampE vis).Nodup
theorem VisE.nil (ls:EL):VisE ls []:=⟨fun x a=>(by cases a),List.nodup_nil⟩
theorem VisE.len {ls a:EL} (h:VisE ls a):a.length≤ls.length:=by
 have:=sub_lenE (stampE a) (stampE ls) h.2 (fun x b=>by
  obtain ⟨y,c,rfl⟩:=List.mem_map.1 b;exact List.mem_map.2 ⟨y,h.1 y c,rfl⟩)
 simpa [stampE] using this
theorem VisE.add {ls c:EL} {j:Value} (h:VisE ls c) (g:OneE ls (stampE c) e j i):VisE ls (c ++ [(e,j,i)]):=by
 refine ⟨fun x d=>?_, ?_⟩
 ·rcases List.mem_append.1 d with d | d
  ·exact h.1 x d
  ·simp at d;rw [d];exact g.1
 ·rw [stampE_add,List.nodup_append];refine ⟨h.2,ξ,fun a k b f=>?_⟩;simp at f;subst f;exact fun e=>g.2 (e ▸ k)
theorem VisE.keys {ls d:EL} (h:VisE ls d) (g:Good ls c):(d.map (fun x=>x.1)).Nodup:=by
 have h2:d.Pairwise (fun a b=>a.2.2≠b.2.2):=List.pairwise_map.1 h.2;refine List.pairwise_map.2 (h2.imp_of_mem (fun {a b} i j f e=>f ?_));rw [keyE_inj g.1 (h.1 a i) (h.1 b j) e]
theorem VisE.all {ls a:EL} (h:VisE ls a) (d:Good ls c) (f:AllE ls (stampE a)) (x:E4×Value×Nat):x∈a↔x∈ls:=by
 refine ⟨h.1 x,fun b=>?_⟩;obtain ⟨y,g,e⟩:=List.mem_map.1 (f x b);rwa [← stampE_inj d.2.1 (h.1 y g) b e]
theorem lk_in {ls:EL} (a:Good ls c) (h:(e,v,d)∈ls):lk ls e=some v:=by
 obtain ⟨j,b⟩:=List.getElem?_of_mem h;exact Kw a.1 b rfl
end Go.Proofs.YtjkjpopghkeibaaGreatDoor
