/- A part of it. -/
import Derived.Test.YtnpboeodhpenmaaGreatDoorQlag
import Derived.Test.YtnpboeodhpenmaaGreatDoorQlaf
set_option maxRecDepth 100000
set_option maxHeartbeats 40000000
namespace Go.Proofs.YtnpboeodhpenmaaGreatDoor
open Go.RowKit Go.ChangeMaps
variable {w w' wr:World} {a b base c e i r:Nat} {d v:Value} {k p q s x y:Int} {L:List T3}
def gix (l:List T3) (e:E4):List Int:=((List.range l.length).filter fun i=>hasT (l.getD i (0,0,0)) e).map fun (i:Nat)=>(i:Int)
theorem gix_nil (e:E4):gix [] e=[]:=rfl
theorem gix_snoc (l:List T3) (t:T3) (e:E4):gix (l ++ [t]) e=gix l e ++ if hasT t e=true then [(l.length:Int)] else []:=by
 unfold gix;rw [List.length_append,List.length_singleton,List.range_succ,List.filter_append,List.map_append];congr 1
 ·congr 1
  apply List.filter_congr;intro i hi;have a:i<l.length:=by simpa using hi
  simp [a,List.getElem_append_left,Nat.lt_succ_of_lt a]
 ·have e1:(l ++ [t]).getD l.length (0,0,0)=t:=ξ
  cases h:hasT t e
  ·simp [h]
  ·simp [h]
theorem gix_len (l:List T3) (e:E4):(gix l e).length≤l.length:=by
 unfold gix;rw [List.length_map];exact Nt (List.length_filter_le _ _) ξ
theorem gix_mem {l:List T3} {e:E4} {j:Int}:j∈gix l e↔∃ i:Nat,∃ h:i<l.length,j=(i:Int)∧hasT l[i] e=true:=by
 unfold gix;simp only [List.mem_map,List.mem_filter,List.mem_range];constructor
 ·rintro ⟨i,⟨hi,a⟩,rfl⟩;exact ⟨i,hi,rfl,by simpa [hi] using a⟩
 ·rintro ⟨i,hi,rfl,a⟩;exact ⟨i,⟨hi,by simpa [hi] using a⟩,rfl⟩
def GP (w:World) (base ra:Nat) (vt:Value) (G:E4→List Int):Prop :=
 ∃ ls clock,EM w ra ls clock∧Good ls clock∧(∀ e,lk ls e=none→G e=[]) ∧
  (∀ e v,lk ls e=some v→w.ownsRow base 3 1 v (G e).length ((G e).map (Value.int .i64))∧G e≠[]∧(vt.ownBlock=none∨v.ownBlock≠vt.ownBlock)) ∧
  (∀ e e' v v',e≠e'→lk ls e=some v→lk ls e'=some v'→v.ownBlock≠v'.ownBlock)
theorem Ym {e:TypeId} {size:Nat} {n:Nat} {c:List Value} (h:w.ownsRow base e size v n c) (d:0<n):∃ g,v.ownBlock=some g∧base≤g∧g<w.heap.size:=by
 rcases h.2 with ⟨rfl,h0⟩ | ⟨g,a,b,rfl,h2,h3,h4⟩
 ·omega
 ·refine ⟨g,δ2,h2, ?_⟩;exact (Array.getElem?_eq_some_iff.1 h3).1
theorem Vr {e:TypeId} {size:Nat} {n:Nat} {a:List Value} (h:w.ownsRow base e size v n a):∀ g,v.ownBlock=some g→base≤g∧g<w.heap.size:=fun g hg=>h.lt g hg
theorem EM.lt {ls:List (E4×Value×Nat)} (h:EM w r ls c):r<w.heap.size:=(Array.getElem?_eq_some_iff.1 h).1
theorem EM.grown {ls:List (E4×Value×Nat)} {row:Option Nat} (h:EM w r ls c) (hg:w.grownBy w' row) (a:some r≠row):EM w' r ls c:=(hg.block r h.lt a).trans h
theorem Qy {v:World} (h:Bl w v):w.grownBy v none:=⟨h.os,h.tape,h.output,h.size,fun k a _=>h.block k a⟩
theorem GP.kept {G:E4→List Int} (h:GP w base b d G) (a:Bl w w'):GP w' base b d G:=by
 obtain ⟨ls,c,h1,h2,h3,h4,h5⟩:=h;refine ⟨ls,c,h1.grown (Qy a) ξ,h2,h3,fun e v g=>?_,h5⟩;obtain ⟨a1,f,a3⟩:=h4 e v g;exact ⟨Qj a1 a,f,a3⟩
theorem GP.other {vt':Value} {G:E4→List Int} (h:GP w base i d G) (n:i<base) (hg:w.grownBy w' d.ownBlock) (f:∀ g,d.ownBlock=some g→base≤g) (b:vt'.ownBlock=d.ownBlock∨vt'.ownBlock=some w.heap.size):GP w' base i vt' G:=by
 obtain ⟨ls,c,h1,h2,h3,h4,h5⟩:=h;refine ⟨ls,c,h1.grown hg (fun e=>by have:=f _ e.symm;omega),h2,h3,fun e v k=>?_,h5⟩;obtain ⟨a1,j,a3⟩:=h4 e v k;obtain ⟨g,a,l,m⟩:=Ym a1 (List.length_pos_iff.2 j);refine ⟨a1.kept hg ?_,j, ?_⟩
 ·rcases a3 with a3 | a3
  ·rw [a,a3];exact Or.inr ξ
  ·exact Or.inr a3
 ·rcases b with b | b
  ·rw [b];exact a3
  ·rw [b,a];refine Or.inr (fun e=>?_);simp at e;omega
theorem zero70 (w:World):(zeroValue 22).run Tryz.prog w=.ok SN w:=η
theorem GP.entry {l:Nat} {L:Value} {G:E4→List Int} (h:GP w base l L G) (V:l<base) (O:∀ g,L.ownBlock=some g→g<w.heap.size) (e:E4) (n:Int) :
  ∃ v0 K W2,(Instr.mapEntry 95 (.map (some l)) (ek e)).run Tryz.prog w=.ok (.tuple #[v0,I K]) W2∧w.grownBy W2 (some l)∧W2.heap.size=w.heap.size∧W2.ownsRow base 3 1 v0 (G e).length ((G e).map (Value.int .i64)) ∧
   ∀ v' r,W2.grownBy r v0.ownBlock→r.ownsRow base 3 1 v' ((G e).length+1) ((G e).map (Value.int .i64) ++ [I n])→(v'.ownBlock=v0.ownBlock∨v'.ownBlock=some W2.heap.size) →
    ∃ W4,(Instr.entryStore 95 (.map (some l)) (I K) v').run Tryz.prog r=.ok () W4∧r.grownBy W4 (some l)∧GP W4 base l L (fun j=>if j=e then G e ++ [n] else G j):=by
 obtain ⟨ls,c,h1,h2,h3,h4,h5⟩:=h;obtain ⟨K,k,c1,A,N⟩:=entry27 Tryz.underlying95 zero70 h1 h2 e;have M:=h1;unfold EM at M;have x:=Yf M (.map (k.map toE).toArray c1)
 have o:∀ {W:World} {v:Value} {n:Nat} {R:List Value},W.ownsRow base 3 1 v n R→v.ownBlock=none∨v.ownBlock≠some l:=fun {W v n R} U=>by
  cases H:v.ownBlock with
  | none=>exact Or.inl rfl
  | some g =>
   refine Or.inr (fun e1=>?_);have:=(U.lt g H).1;simp at e1;omega
 have C:(setBlock w l (.map (k.map toE).toArray c1)).ownsRow base 3 1 ((lk ls e).getD SN) (G e).length ((G e).map (Value.int .i64)):=by
  cases f:lk ls e with
  | none =>
   rw [h3 e f];exact World.ownsRow_nil _ _ _ _
  | some v =>
   have a:=(h4 e v f).1;exact a.kept x (o a)
 have B:(setBlock w l (.map (k.map toE).toArray c1)).heap.size=w.heap.size:=by simp [setBlock]
 refine ⟨_,(K:Int),_,A,x,B,C,fun v' r z p s=>?_⟩;obtain ⟨D,P,T,F,_,g3⟩:=N v'
 have t:EM r l k c1:=by
  have e0:EM (setBlock w l (.map (k.map toE).toArray c1)) l k c1:=heap_setBlock_same M _;refine e0.grown z ?_;rcases o C with e1 | e1
  ·rw [e1];simp
  ·exact fun e2=>e1 e2.symm
 have q:=Yf t (.map (D.map toE).toArray P);refine ⟨_,g3 r t,q,D,P,heap_setBlock_same t _,T,fun j b=>?_,fun j v b=>?_,fun j J v Q y b d=>?_⟩
 ·rw [F j] at b;by_cases e1:j=e
  ·rw [if_pos e1] at b
   cases b
  ·rw [if_neg e1] at b;dsimp only;rw [if_neg e1];exact h3 j b
 ·rw [F j] at b;by_cases e1:j=e
  ·dsimp only;rw [if_pos e1] at b ⊢;simp at b;subst b;refine ⟨?_,ξ, ?_⟩
   ·have:=p.kept q (o p);simpa using this
   ·rcases s with f | f
    ·cases hlk:lk ls e with
     | none =>
      rw [hlk] at f;have:v'.ownBlock=none:=by rw [f];rfl
      obtain ⟨g,hg,_⟩:=Ym p γ;rw [hg] at this
      cases this
     | some v =>
      rw [hlk] at f;rw [f];exact (h4 e v hlk).2.2
    ·rw [f]
     cases hvb:L.ownBlock with
     | none=>exact Or.inl rfl
     | some g =>
      have:=O g hvb;refine Or.inr (fun e2=>?_);simp at e2;omega
  ·dsimp only;rw [if_neg e1] at b ⊢;obtain ⟨a1,E,a3⟩:=h4 j v b;refine ⟨?_,E,a3⟩;have b1:=a1.kept x (o a1)
   have b2:r.ownsRow base 3 1 v (G j).length ((G j).map (Value.int .i64)):=by
    refine b1.kept z ?_
    cases hlk:lk ls e with
    | none =>
     obtain ⟨g,hg,_⟩:=Ym a1 (List.length_pos_iff.2 E);rw [hg];exact Or.inr δ2
    | some v0=>exact Or.inr (h5 j e v v0 e1 b hlk)
   exact b2.kept q (o b2)
 ·rw [F j] at b;rw [F J] at d
  have m:∀ i u,i≠e→lk ls i=some u→u.ownBlock≠v'.ownBlock:=fun i u hi H=>by
   obtain ⟨a1,E,_⟩:=h4 i u H;obtain ⟨g,hg,_,q⟩:=Ym a1 (List.length_pos_iff.2 E);rcases s with f | f
   ·cases hlk:lk ls e with
    | none =>
     rw [hlk] at f;rw [f,hg];simp [Value.ownBlock]
    | some v0 =>
     rw [hlk] at f;rw [f];exact h5 i e u v0 hi H hlk
   ·rw [f,hg,B];intro e2;simp at e2;omega
  by_cases e1:j=e
  ·rw [if_pos e1] at b;rw [if_neg (fun e2=>y (e1.trans e2.symm))] at d;simp at b;subst b;exact fun e2=>m J Q (fun e3=>y (e1.trans e3.symm)) d e2.symm
  ·rw [if_neg e1] at b;by_cases e3:J=e
   ·rw [if_pos e3] at d;simp at d;subst d;exact m j v e1 b
   ·rw [if_neg e3] at d;exact h5 j J v Q y b d
def Pc (w:World) (pb ra rk:Nat) (vt:Value):Prop :=
 At w pb 0 vt∧At w pb 1 (.map (some ra))∧At w pb 2 (.map (some rk))∧Fn w pb 0
theorem Pc.lt (h:Pc w a b c d):a<w.heap.size:=bk h.1
theorem Pc.grown {d:Nat} {f:Value} {row:Option Nat} (h:Pc w c d e f) (hg:w.grownBy w' row) (b:some c≠row):Pc w' c d e f :=
 ⟨hg.cell h.1 b,hg.cell h.2.1 b,hg.cell h.2.2.1 b,(Fo (a:=⟨c,0,none⟩) (hg.block c h.lt b)).trans h.2.2.2⟩
theorem Pc.apart {d:Nat} {f:Value} {ls:List (E4×Value×Nat)} (h:Pc w b d e f) (a:EM w r ls c):b≠r:=by
 rintro rfl;have:=h.1;unfold EM at a;simp [World.cell?,a] at this
def PP (w0 w:World) (base pb ra rk:Nat) (vt:Value) (L:List T3) (G:E4→List Int):Prop :=
 Pc w pb ra rk vt∧w.ownsRow base 51 3 vt L.length (flatV L)∧GP w base ra vt G∧(∃ c,EM w rk [] c∧Good [] c)∧(w0.heap.size≤pb∧pb<base∧w0.heap.size≤ra∧ra<base∧w0.heap.size≤rk∧rk<base∧ra≠rk∧base≤w.heap.size)∧Bl w0 w
theorem PP.kept {i:World} {d f:Nat} {g:Value} {G:E4→List Int} (h:PP i w base d e f g L G) (a:Bl w w'):PP i w' base d e f g L G:=by
 obtain ⟨h1,h2,h3,⟨c,h4,b⟩,⟨a1,j,a3,a4,a5,k,l,m⟩,h6⟩:=h;exact ⟨h1.grown (Qy a) ξ,Qj h2 a,h3.kept a,⟨c,h4.grown (Qy a) ξ,b⟩,⟨a1,j,a3,a4,a5,k,l,Nt m a.size⟩,Qc h6 a⟩
theorem PP.entry {K:World} {z H:Nat} {p:Value} {G:E4→List Int} (h:PP K wr base z i H p L G) (P:Bl wr w) (e:E4) (n:Int) :
  ∃ v0 A l,(Instr.mapEntry 95 (.map (some i)) (ek e)).run Tryz.prog w=.ok (.tuple #[v0,I A]) l∧w.grownBy l (some i)∧l.heap.size=w.heap.size∧l.ownsRow base 3 1 v0 (G e).length ((G e).map (Value.int .i64))∧(∀ g,v0.ownBlock=some g→base≤g∧g<wr.heap.size) ∧
   ∀ v' t,l.grownBy t v0.ownBlock→t.ownsRow base 3 1 v' ((G e).length+1) ((G e).map (Value.int .i64) ++ [I n])→(v'.ownBlock=v0.ownBlock∨v'.ownBlock=some l.heap.size) →
    ∃ x,(Instr.entryStore 95 (.map (some i)) (I A) v').run Tryz.prog t=.ok () x∧t.grownBy x (some i)∧PP K x base z i H p L (fun j=>if j=e then G e ++ [n] else G j):=by
 have m:=h.kept P;obtain ⟨h1,h2,h3,⟨c,h4,D⟩,⟨a1,M,a3,a4,a5,N,B,Q⟩,h6⟩:=m
 have a:∃ ls c,EM w i ls c:=by
  obtain ⟨ls,c,q,_⟩:=h3;exact ⟨ls,c,q⟩
 obtain ⟨U,Z,a⟩:=a;obtain ⟨v0,A,l,r1,r2,r3,V,W⟩:=h3.entry a4 (fun g hg=>(Vr h2 g hg).2) e n
 have f:∀ g,v0.ownBlock=some g→base≤g∧g<wr.heap.size:=by
  obtain ⟨q1,q2,⟨ls,O,b1,b2,b3,b4,R⟩,q3⟩:=h;have C:EM w i ls O:=b1.grown (Qy P) ξ;obtain ⟨J,F,c1,d,_⟩:=entry27 Tryz.underlying95 zero70 C b2 e;rw [d] at r1;simp only [Result.ok.injEq,Value.tuple.injEq,Array.mk.injEq,List.cons.injEq] at r1;obtain ⟨⟨rfl,_⟩,_⟩:=r1;intro g hg
  cases hl:lk ls e with
  | none =>
   rw [hl] at hg;simp [Value.ownBlock] at hg
  | some v =>
   rw [hl] at hg;exact Vr (b4 e v hl).1 g hg
 refine ⟨v0,A,l,r1,r2,r3,V,f,fun v' t r T g3=>?_⟩;obtain ⟨x,X,u,Y⟩:=W v' t r T g3
 have o:∀ k:Nat,k<base→some k≠v0.ownBlock:=fun k m e1=>by
  have:=(f k e1.symm).1;omega
 have b:p.ownBlock=none∨p.ownBlock≠some i:=by
  cases hu:p.ownBlock with
  | none=>exact Or.inl rfl
  | some g =>
   refine Or.inr (fun e1=>?_);have:=(Vr h2 g hu).1;simp at e1;omega
 have E:p.ownBlock=none∨p.ownBlock≠v0.ownBlock:=by
  obtain ⟨ls,O,b1,b2,b3,b4,R⟩:=h3;obtain ⟨J,F,c1,d,_⟩:=entry27 Tryz.underlying95 zero70 b1 b2 e;rw [d] at r1;simp only [Result.ok.injEq,Value.tuple.injEq,Array.mk.injEq,List.cons.injEq] at r1;obtain ⟨⟨rfl,_⟩,_⟩:=r1
  cases hl:lk ls e with
  | none =>
   cases hu:p.ownBlock with
   | none=>exact Or.inl rfl
   | some g=>exact Or.inr δ2
  | some v =>
   rcases (b4 e v hl).2.2 with q | q
   ·exact Or.inl q
   ·exact Or.inr (fun e1=>q e1.symm)
 have y:some z≠some i:=fun e1=>h1.apart a (by simpa using e1);refine ⟨x,X,u,((h1.grown r2 y).grown r (o z M)).grown u y,((h2.kept r2 b).kept r E).kept u b,Y,⟨c,((h4.grown r2 (fun e1=>B (by simp at e1;exact e1.symm))).grown r (o H N)).grown u (fun e1=>B (by simp at e1;exact e1.symm)),D⟩,⟨a1,M,a3,a4,a5,N,B,Nt Q (Nt r2.size (Nt r.size u.size))⟩, ?_⟩;have s:K.heap.size≤w.heap.size:=h6.size;have k1:=h6.grown r2 s (fun k m=>by simp at m;omega);have k2:=k1.grown r (Nt s r2.size) (fun k m=>by have:=(f k m).1;omega);exact k2.grown u (Nt s (Nt r2.size r.size)) (fun k m=>by simp at m;omega)
theorem PP.pushed {F l:World} {s g:Nat} {u:Value} {t:T3} {G:E4→List Int} (h:PP F wr base b r s u L G) (m:Bl wr w) (hg:w.grownBy l u.ownBlock)
  (f:l.ownsRow base 51 3 (.slice (Az g) (L.length+1) a) (L.length+1) (flatV L ++ [I t.1,I t.2.1,I t.2.2])) (Q:u.ownBlock=some g∨g=w.heap.size) :
  PP F (l.setCell ⟨b,0,none⟩ (.slice (Az g) (L.length+1) a)) base b r s (.slice (Az g) (L.length+1) a) (L ++ [t]) G:=by
 obtain ⟨h1,h2,h3,⟨c,h4,x⟩,⟨a1,B,a3,a4,a5,C,H,J⟩,h6⟩:=h.kept m
 have i:∀ k:Nat,k<base→some k≠u.ownBlock:=fun k n e1=>by
  have:=(Vr h2 k e1.symm).1;omega
 have j:(Value.slice (Az g) (L.length+1) a).ownBlock=some g:=rfl;have o:=h1.grown hg (i b B)
 have d:∃ ls c,EM w r ls c:=by
  obtain ⟨ls,c,q,_⟩:=h3;exact ⟨ls,c,q⟩
 obtain ⟨R,U,d⟩:=d;have z:b≠r:=h1.apart d;have A:b≠s:=h1.apart h4
 have N:=h3.other (vt':=.slice (Az g) (L.length+1) a) a4 hg (fun g hg=>(Vr h2 g hg).1) (by
  rw [j];rcases Q with q | q
  ·exact Or.inl q.symm
  ·exact Or.inr (by rw [q]))
 have hs:l.grownBy (l.setCell ⟨b,0,none⟩ (.slice (Az g) (L.length+1) a)) (some b):=by
  have m:=Below.setCell (w:=l) (p:=⟨b,0,none⟩) (Below.refl b l) (Nr _) (.slice (Az g) (L.length+1) a)
  exact ⟨m.os,m.tape,m.output,m.size,fun k _ n=>by
   have:k≠b:=fun e1=>n (by rw [e1]);exact Below.heap_setCell _ _ _ k this⟩
 have P:base≤g:=(Vr f g j).1
 have y:some g≠some b:=fun e1=>by
  simp at e1;omega
 refine ⟨⟨?_, ?_, ?_, ?_⟩, ?_, ?_,⟨c,(h4.grown hg (i s C)).grown hs (fun e1=>A (by simpa using e1.symm)),x⟩,⟨a1,B,a3,a4,a5,C,H,Nt J (Nt hg.size hs.size)⟩, ?_⟩
 ·exact Cs _ _ _ o.1
 ·exact (Co _ _ _ _ ξ).trans o.2.1
 ·exact (Co _ _ _ _ ξ).trans o.2.2.1
 ·exact (Fz _ _ _ _).trans o.2.2.2
 ·rw [List.length_append,List.length_singleton,Xr];exact f.kept hs (Or.inr (by rw [j];exact y))
 ·obtain ⟨ls,M,b1,b2,b3,b4,K⟩:=N;refine ⟨ls,M,b1.grown hs (fun e1=>z (by simpa using e1.symm)),b2,b3,fun e v O=>?_,K⟩;obtain ⟨D,E,T⟩:=b4 e v O;refine ⟨D.kept hs ?_,E,T⟩;obtain ⟨V,e1,e2,_⟩:=Ym D (List.length_pos_iff.2 E);rw [e1];exact Or.inr (fun e3=>by simp at e3;omega)
 ·have k1:=h6.grown hg h6.size (fun k n=>by have:=(Vr h2 k n).1;omega);exact k1.grown hs (Nt h6.size hg.size) (fun k n=>by simp at n;omega)
def AW (w wx:World) (x y k p q r s:Int):Prop:=Tr wx (w.heap.size) x y k∧Qd wx (w.heap.size+1) p q r s∧Tr wx (w.heap.size+1+1) 0 0 0∧Fr wx (w.heap.size+1+1)∧Bl w wx
theorem AW.kept {b:World} {r:Int} (h:AW w wr x y k p q r s) (a:Bl wr b):AW w b x y k p q r s :=
 ⟨h.1.kept a,h.2.1.kept a,h.2.2.1.kept a,h.2.2.2.1.kept h.2.2.1.lt a,Qc h.2.2.2.2 a⟩
def NX (x y k p q r s dx:Int):Prop := ∀ a b l:Int, -1≤a→a<dx→-1≤b→b≤1→0≤l→l≤3→¬ Oth x y k p q r s a b l
def NY (x y k p q r s dx dy:Int):Prop := ∀ b l:Int, -1≤b→b<dy→0≤l→l≤3→¬ Oth x y k p q r s dx b l
def NZ (x y k p q r s dx dy l:Int):Prop := ∀ m:Int,0≤m→m<l→¬ Oth x y k p q r s dx dy m
theorem NX.next {r c:Int} (h:NX x y k p q r s c) (d:NY x y k p q r s c 2):NX x y k p q r s (c+1):=fun a b l a0 a1 b0 b1 l0 l1=>by
 by_cases e:a=c
 ·subst e;exact d b l b0 γ l0 l1
 ·exact h a b l a0 γ b0 b1 l0 l1
theorem NY.next {r c a:Int} (h:NY x y k p q r s c a) (d:NZ x y k p q r s c a 4):NY x y k p q r s c (a+1):=fun b l b0 b1 l0 l1=>by
 by_cases e:b=a
 ·subst e;exact d l l0 γ
 ·exact h b l b0 γ l0 l1
theorem NZ.next {r a b l:Int} (h:NZ x y k p q r s a b l) (c:¬ Oth x y k p q r s a b l):NZ x y k p q r s a b (l+1):=fun m d f=>by
 by_cases e:m=l
 ·subst e;exact c
 ·exact h m d γ
theorem Vm (x y k p q r s:Int) (w:World) (h:triB x y k=true) (o:hasB x y k p q r s=true) :
  Rt 124 #[.agg #[I x,I y,I k],.agg #[I p,I q,I r,I s]] w (.tuple #[.agg #[I (acX x y k p q r s),I (acY x y k p q r s),I (acK x y k p q r s)],.bool true]):=by
 have f:0≤k∧k≤3∧-1000000≤x∧x≤1000000∧-1000000≤y∧y≤1000000:=by simpa [triB] using h
 obtain ⟨k0,k3,b1,b2,b3,b4⟩:=f;have B:Hid (∀ (X Y K:Int) (W:World), -4000000≤X→X≤4000000→-4000000≤Y→Y≤4000000→0≤K→K≤3→Rt 219 #[.agg #[I X,I Y,I K],.agg #[I p,I q,I r,I s]] W (.bool (hasB X Y K p q r s))):=fun X Y K W c1 c2 c3 c4 c5 c6=>Vx X Y K p q r s W c1 c2 c3 c4 c5 c6;have H:Hid (∀ W:World,Rt 219 #[.agg #[I x,I y,I k],.agg #[I p,I q,I r,I s]] W (.bool true)):=fun W=>o ▸ Vx x y k p q r s W γ γ γ γ γ γ;have J:Hid (∀ c d l:Int,0≤l→l≤3→Oth x y k p q r s c d l→x+c=acX x y k p q r s∧y+d=acY x y k p q r s∧l=acK x y k p q r s):=fun c d l l0 l3 z=>Qaj x y k p q r s c d l k0 k3 l0 l3 o z;have HX:=Hd (across_has x y k p q r s k0 k3 o);have hn:=neq23;clear h o;go_enter Tryz.func124,Tryz.ntmps124;go_wp2_with (go_at_call 219;refine (H.out _).mono ?_;rintro e w1 ⟨rfl,f⟩;have t:Hid (AW w w1 x y k p q r s):=⟨Tr.kept γ8 f,Qd.kept (by simp [Qd,go_sem]) f,Tr.kept γ8 f,Fr.kept (by simp [Fr,go_sem]) ξ f,Qc β3 f⟩;clear f)
 clear H;go_loopg [6] 3 (fun g T E=>∃ c:Int, -1≤c∧c≤2∧(g:Int)=2 - c∧T=I c∧NX x y k p q r s c∧AW w E x y k p q r s)
 case atStart=>exact ⟨-1,γ,γ,γ,rfl,fun a b l a0 a1=>by omega,t.out⟩
 case round =>
  obtain ⟨c,d1,d2,N,rfl,n,j⟩:=hrel;have C:=Hd n;clear n;by_cases hx:c≤1
  ·go_wp2;go_loopg [7] 3 (fun g U E=>∃ d:Int, -1≤d∧d≤2∧(g:Int)=2 - d∧U=I d∧NY x y k p q r s c d∧AW w E x y k p q r s)
   case atStart=>exact ⟨-1,γ,γ,γ,rfl,fun b l b0 b1=>by omega,j⟩
   case round =>
    clear j;obtain ⟨d,d3,d4,O,rfl,n,j⟩:=hrel;have D:=Hd n;clear n;by_cases hy:d≤1
    ·go_wp2;go_loopg [8] 4 (fun g V E=>∃ l:Int,0≤l∧l≤4∧(g:Int)=4 - l∧V=I l∧NZ x y k p q r s c d l∧AW w E x y k p q r s)
     case atStart=>exact ⟨0,γ,γ,γ,rfl,fun m m0 m1=>by omega,j⟩
     case round =>
      clear j;obtain ⟨l,d5,d6,P,rfl,n,j⟩:=hrel;have u:=Hd n;have t:=Hd j;clear n j;by_cases hl:l<4
      ·have wX:IntKind.i64.wrap (x+c)=x+c:=Yi γ γ;have wY:IntKind.i64.wrap (y+d)=y+d:=Yi γ γ;obtain ⟨⟨t0,t1,t2⟩,⟨q0,q1,q2,q3⟩,⟨r0,r1,r2⟩,⟨f0,f1,f2,f3,f4,f5⟩,L⟩:=t.out;have z0:=Bt r0;have Z:w.heap.size<wr.heap.size:=γ;have a2:w.heap.size<wr.heap.size+1:=γ;have a6:w.heap.size<wr.heap.size+1+1:=γ;have a7:w.heap.size+1<wr.heap.size:=γ;have a8:w.heap.size+1<wr.heap.size+1:=γ;have aa:w.heap.size+1<wr.heap.size+1+1:=γ;have ab:w.heap.size+1+1<wr.heap.size:=γ;have ac:w.heap.size+1+1<wr.heap.size+1:=γ;have ad:w.heap.size+1+1<wr.heap.size+1+1:=γ;clear L
       cases hs:sameT (x+c) (y+d) l x y k
       ·cases o:hasB (x+c) (y+d) l p q r s
        ·go_wp2_with (go_at_call 219;refine (B.out _ _ _ _ γ γ γ γ γ γ).mono ?_;rintro e A ⟨rfl,f⟩;have i:=Hd (AW.kept t.out (Qc β1 f));clear f)
         go_roundg (3 - l).toNat
         case measure=>omega
         case rel=>exact ⟨l+1,γ,γ,γ,σ,u.out.next (fun z=>by rw [z.1] at o;exact Bool.noConfusion o),i.out⟩
        ·have F:Hid (x+c=acX x y k p q r s∧y+d=acY x y k p q r s∧l=acK x y k p q r s):=J.out c d l γ γ ⟨o,by intro M;simp [sameT,M] at hs⟩;go_wp2_with (go_at_call 219;refine (B.out _ _ _ _ γ γ γ γ γ γ).mono ?_;rintro e A ⟨rfl,f⟩;have i:=Hd (AW.kept t.out (Qc β1 f));have v0:At A wr.heap.size 0 (I (x+c)):=Qa f δ;have v1:At A wr.heap.size 1 (I (y+d)):=Qa f δ;have v2:At A wr.heap.size 2 (I l):=Qa f δ;obtain ⟨_,_,⟨G,Q,R⟩,⟨g0,g1,g2,_,_,_⟩,_⟩:=i.out;have y0:=Bt G;have y1:w.heap.size+1+1<A.heap.size+1:=γ;have y2:=Bt v0;have y3:wr.heap.size<A.heap.size+1:=γ;clear f)
         refine bodyPost_ret (v:=.tuple #[.agg #[I (x+c),I (y+d),I l],.bool true]) ?_ rfl ⟨by rw [F.out.1,F.out.2.1,← F.out.2.2], ?_⟩
         ·first | (simp [results,Tryz.results124,go_sem, *];done) | (simp [results,Tryz.results124,go_sem,Ca, *];done)
         ·with_reducible repeat' (first | exact i.out.2.2.2.2 | refine Qh ?_ ?_ | refine Qb ?_ | refine Qg ?_)
          all_goals (first | omega | (dsimp only;omega))
       ·go_wp2;go_roundg (3 - l).toNat
        case measure=>omega
        case rel=>exact ⟨l+1,γ,γ,γ,σ,u.out.next (fun z=>by simp [sameT] at hs;exact z.2 γ),t.out.kept β1⟩
      ·go_wp2;go_roundg (1 - d).toNat
       case measure=>omega
       case rel =>
        obtain rfl:l=4:=γ;exact ⟨d+1,γ,γ,γ,σ,D.out.next u.out,t.out⟩
    ·go_wp2;go_roundg (1 - c).toNat
     case measure=>omega
     case rel =>
      obtain rfl:d=2:=γ;exact ⟨c+1,γ,γ,γ,σ,C.out.next D.out,j⟩
  ·exfalso
   obtain rfl:c=2:=γ;obtain ⟨a,b,l,⟨a0,a1⟩,⟨b0,b1⟩,⟨l0,l1⟩,z⟩:=HX.out;exact C.out a b l a0 γ b0 b1 l0 l1 z
def Tek (e:T3):Value:=.agg #[I e.1,I e.2.1,I e.2.2]
def TtoE (x:T3×Value×Nat):MapEntry:=⟨Tek x.1,x.2.1,x.2.2⟩
theorem Tequal27 (a b:T3) (w:World):(Op.equal 51 (Tek a) (Tek b)).run Tryz.prog w=.ok (decide (a=b)) w:=by
 obtain ⟨a0,a1,c⟩:=a;obtain ⟨b0,b1,b2⟩:=b;have h:=eql23 a0 a1 c b0 b1 b2 w;have e:sameT a0 a1 c b0 b1 b2=decide ((a0,a1,c)=(b0,b1,b2)):=by simp [sameT]
 rw [e] at h;unfold Tek;simp only [binOp,Sem.run_bind,Sem.run_pure] at h
 cases hr:(Op.equal 51 (.agg #[I a0,I a1,I c]) (.agg #[I b0,I b1,I b2])).run Tryz.prog w with
 | ok r w1 =>
  rw [hr] at h;simpa [Result.andThen] using h
 | halt x w1 =>
  rw [hr] at h;simp [Result.andThen] at h
theorem Tcheck27a (em:Bool) (n:Nat) (a b c:Int) (w:World):(Instr.checkKey em (n+2) 51 (.agg #[I a,I b,I c])).run Tryz.prog w=.ok () w:=by
 rw [show n+2=(n+1)+1 by omega];unfold Instr.checkKey;simp [run_underlying Tryz.underlying51,go_sem,checkInt]
theorem Tcheck27 (em:Bool) (a:T3) (w:World):(Instr.checkKey em 10000 51 (Tek a)).run Tryz.prog w=.ok () w:=Tcheck27a em 9998 _ _ _ w
theorem Tstays27 (a:T3) (w:World):(Instr.keyThatStays (Tek a) (Tek a)).run Tryz.prog w=.ok (Tek a) w:=by
 have:Instr.sameBits 10000 (Tek a) (Tek a)=true:=by
  unfold Tek;show Instr.sameBits (9999+1) _ _=true
  simp [Instr.sameBits]
 simp [Instr.keyThatStays,this]
theorem Tfind27 (k:T3) (w:World):∀ (ls:List (T3×Value×Nat)) (i:Nat),
  ((Instr.findAsking 51 (Tek k) (ls.map TtoE) i).run Tryz.prog w=.ok none w∧∀ x∈ls,x.1≠k) ∨
  ∃ j x,(Instr.findAsking 51 (Tek k) (ls.map TtoE) i).run Tryz.prog w=.ok (some (i+j,x.2.1)) w∧ls[j]?=some x∧x.1=k
 | [],i=>Or.inl ⟨by simp [Instr.findAsking],ξ⟩
 | x :: r,i=>by
  by_cases h:k=x.1
  ·refine Or.inr ⟨0,x, ?_,rfl,h.symm⟩;have hq:=Tequal27 k x.1 w;rw [decide_eq_true h] at hq;rw [List.map_cons];simp only [Instr.findAsking,TtoE,Sem.run_bind,hq,Result.andThen];rfl
  ·have hq:=Tequal27 k x.1 w;rw [decide_eq_false h] at hq;rcases Tfind27 k w r (i+1) with ⟨h1,h2⟩ | ⟨j,y,h1,h2,h3⟩
   ·refine Or.inl ⟨?_, ?_⟩
    ·rw [List.map_cons];simp only [Instr.findAsking,TtoE,Sem.run_bind,hq,Result.andThen];exact h1
    ·intro y a;rcases List.mem_cons.1 a with rfl | a
     ·exact fun e=>h e.symm
     ·exact h2 y a
   ·refine Or.inr ⟨j+1,y, ?_,by simpa using h2,h3⟩;rw [List.map_cons];simp only [Instr.findAsking,TtoE,Sem.run_bind,hq,Result.andThen];rw [show i+(j+1)=i+1+j by omega];exact h1
def TEM (w:World) (r:Nat) (ls:List (T3×Value×Nat)) (clock:Nat):Prop:=w.heap[r]?=some (.map (ls.map TtoE).toArray clock)
def TGood (ls:List (T3×Value×Nat)) (clock:Nat):Prop:=(ls.map (fun x=>x.1)).Nodup∧(ls.map (fun x=>x.2.2)).Nodup∧∀ x∈ls,x.2.2<clock
def Tlk:List (T3×Value×Nat)→Int×Int×Int→Option Value
 | [],_=>none
 | x :: r,k=>if x.1=k then some x.2.1 else Tlk r k
theorem Tlk_not {k:T3}:∀ {ls:List (T3×Value×Nat)},(∀ x∈ls,x.1≠k)→Tlk ls k=none
 | [],_=>rfl
 | x :: r,h=>by simp [Tlk,h x ξ,Tlk_not (ls:=r) (fun y a=>h y (by simp [a]))]
theorem Tlk_at {k:T3}:∀ {ls:List (T3×Value×Nat)} {j:Nat} {x:T3×Value×Nat},(ls.map (fun x=>x.1)).Nodup→ls[j]?=some x→x.1=k→Tlk ls k=some x.2.1
 | [],_,_,_,h,_=>by simp at h
 | y :: r,0,x,_,h,hk=>by
  simp at h;subst h;simp [Tlk,hk]
 | y :: r,j+1,x,hn,h,hk=>by
  simp only [List.getElem?_cons_succ] at h;simp only [List.map_cons,List.nodup_cons] at hn;have a:y.1≠k:=fun e=>hn.1 (List.mem_map.2 ⟨x,List.mem_of_getElem? h,hk.trans e.symm⟩);simp [Tlk,a,Tlk_at hn.2 h hk]
theorem Tlk_push {ls:List (T3×Value×Nat)} {k j:T3} (h:∀ x∈ls,x.1≠k):Tlk (ls ++ [(k,v,c)]) j=if j=k then some v else Tlk ls j:=by
 induction ls with
 | nil =>
  by_cases e:j=k
  ·simp [Tlk,e]
  ·have b:¬ k=j:=fun h=>e h.symm;simp [Tlk,e,b]
 | cons y r a =>
  have a:=a (fun x d=>h x (by simp [d]));simp only [List.cons_append,Tlk,a];by_cases e:j=k
  ·subst e;simp [h y ξ]
  ·simp [e]
theorem Tlk_set:∀ {ls:List (T3×Value×Nat)} {i:Nat} {x:T3×Value×Nat} {k j:T3} {v:Value},(ls.map (fun x=>x.1)).Nodup→ls[i]?=some x→x.1=k→Tlk (ls.set i (k,v,x.2.2)) j=if j=k then some v else Tlk ls j
 | [],_,_,_,_,_,_,h,_=>by simp at h
 | y :: r,0,x,k,j,v,_,h,hk=>by
  simp at h;subst h;by_cases e:j=k
  ·simp [Tlk,e]
  ·have b:¬ k=j:=fun h=>e h.symm;simp [Tlk,e,hk,b]
 | y :: r,i+1,x,k,j,v,hn,h,hk=>by
  simp only [List.getElem?_cons_succ] at h;simp only [List.map_cons,List.nodup_cons] at hn;have a:y.1≠k:=fun e=>hn.1 (List.mem_map.2 ⟨x,List.mem_of_getElem? h,hk.trans e.symm⟩);have c:=Tlk_set (j:=j) (v:=v) hn.2 h hk;simp only [List.set_cons_succ,Tlk,c];by_cases e:j=k
  ·subst e;simp [a]
  ·simp [e]
theorem Tset_keys {ls:List (T3×Value×Nat)} {x:T3×Value×Nat} (h:ls[i]?=some x) (v:Value):(ls.set i (x.1,v,x.2.2)).map (fun x=>x.1)=ls.map (fun x=>x.1)∧(ls.set i (x.1,v,x.2.2)).map (fun x=>x.2.2)=ls.map (fun x=>x.2.2):=by
 constructor
 ·rw [List.map_set];exact WideElems.set_self _ _ _ (by simp [h])
 ·rw [List.map_set];exact WideElems.set_self _ _ _ (by simp [h])
theorem Tgood_push {ls:List (T3×Value×Nat)} {k:T3} (hg:TGood ls c) (h:∀ x∈ls,x.1≠k):TGood (ls ++ [(k,v,c)]) (c+1):=by
 obtain ⟨g,i,g3⟩:=hg;refine ⟨?_, ?_, ?_⟩
 ·rw [List.map_append,List.nodup_append];refine ⟨g,ξ,fun a f b e=>?_⟩;obtain ⟨x,d,rfl⟩:=List.mem_map.1 f;simp at e;subst e;exact h x d
 ·rw [List.map_append,List.nodup_append];refine ⟨i,ξ,fun a f b e=>?_⟩;obtain ⟨x,d,rfl⟩:=List.mem_map.1 f;simp at e;subst e;have:=g3 x d;omega
 ·intro x d;rcases List.mem_append.1 d with d | d
  ·have:=g3 x d;omega
  ·simp at d;subst d;simp
theorem Tgood_set {ls:List (T3×Value×Nat)} {x:T3×Value×Nat} (hg:TGood ls a) (h:ls[i]?=some x) (v:Value):TGood (ls.set i (x.1,v,x.2.2)) a:=by
 obtain ⟨c,d,g3⟩:=hg;have b:=Tset_keys h v;refine ⟨b.1 ▸ c,b.2 ▸ d,fun y f=>?_⟩;have:y.2.2∈(ls.set i (x.1,v,x.2.2)).map (fun x=>x.2.2):=List.mem_map.2 ⟨y,f,rfl⟩;rw [b.2] at this;obtain ⟨z,g,e⟩:=List.mem_map.1 this;have:=g3 z g;omega
theorem TfindKey27 (x:Value) (a:List MapEntry) (w:World):(Instr.findKey 51 x a).run Tryz.prog w=(Instr.findAsking 51 x a).run Tryz.prog w:=by
 cases a with
 | nil=>simp [Instr.findKey,Instr.findNow,Instr.findAsking]
 | cons e a=>simp [Instr.findKey,Instr.findNow,Instr.sameNow]
theorem Tentry27 {T E:TypeId} {z:Value} (y:Tryz.prog.underlying T=some (.map 51 E)) (B:∀ u:World,(zeroValue E).run Tryz.prog u=.ok z u) {ls:List (T3×Value×Nat)} (h:TEM w r ls a) (hg:TGood ls a) (k:T3) :
  ∃ st ls1 clock1,(Instr.mapEntry T (.map (some r)) (Tek k)).run Tryz.prog w=.ok (.tuple #[(Tlk ls k).getD z,goInt st]) (setBlock w r (.map (ls1.map TtoE).toArray clock1)) ∧
   ∀ val,∃ ls' clock',TGood ls' clock'∧(∀ j,Tlk ls' j=if j=k then some val else Tlk ls j)∧(ls'.length=ls.length+if Tlk ls k=none then 1 else 0) ∧
    ∀ o,TEM o r ls1 clock1→(Instr.entryStore T (.map (some r)) (goInt st) val).run Tryz.prog o=.ok () (setBlock o r (.map (ls'.map TtoE).toArray clock')):=by
 have m:=h;unfold TEM at m;have t:=fun em=>Tcheck27 em k w;rcases Tfind27 k w ls 0 with ⟨h1,h2⟩ | ⟨j,x,h1,h2,h3⟩
 ·have g:(Instr.findKey 51 (Tek k) (ls.map TtoE)).run Tryz.prog w=.ok none w:=(TfindKey27 _ _ _).trans h1;refine ⟨a,ls ++ [(k,z,a)],a+1, ?_,fun val=>⟨ls ++ [(k,val,a)],a+1,Tgood_push hg h2,fun j=>Tlk_push h2,by simp [Tlk_not h2],fun o b=>?_⟩⟩
  ·rw [Tlk_not h2];simp [Instr.mapEntry,run_underlying y,MapKept.run_getObj_map m,t,g,B,MapKept.run_setObj_map _ m,Result.andThen,setBlock,TtoE]
  ·unfold TEM at b
   have c:((ls ++ [(k,z,a)]).map TtoE).toArray.findIdx? (fun e=>((e.born:Nat):Int) == ((a:Nat):Int))=some ls.length:=by
    rw [WideElems.findIdx_arr]
    have q:(((ls ++ [(k,z,a)]).map TtoE).map (fun e=>e.born)).Nodup:=by
     have:=(Tgood_push (v:=z) hg h2).2.1;rw [List.map_map];exact this
    exact WideElems.findIdx_born q (j:=ls.length) (e0:=TtoE (k,z,a)) ξ
   have d:((ls ++ [(k,z,a)]).map TtoE).toArray.modify ls.length (fun e=>{ e with val:=val })=((ls ++ [(k,val,a)]).map TtoE).toArray:=by
    apply Array.ext';rw [Array.toList_modify];have:=WideElems.modify_last (fun e:MapEntry=>{ e with val:=val }) (TtoE (k,z,a)) (ls.map TtoE);rw [List.length_map] at this;simpa [TtoE] using this
   simp only [Instr.entryStore,Sem.run_bind,MapKept.run_getObj_map b,Result.andThen,asInt,asIntOf,goInt,Sem.run_pure,c,d,MapKept.run_setObj_map _ b,setBlock]
 ·have g:(Instr.findKey 51 (Tek k) (ls.map TtoE)).run Tryz.prog w=.ok (some (j,x.2.1)) w:=(TfindKey27 _ _ _).trans (by simpa using h1);have A:((ls.map TtoE).toArray)[j]?=some (TtoE x):=by simp [h2]
  have f:(ls.map TtoE)[j]?=some (TtoE x):=by simp [h2]
  have n:(TtoE x).key=Tek k:=by simp [TtoE,h3]
  have l:(ls.map TtoE).toArray.modify j (fun e=>{ e with key:=Tek k })=(ls.map TtoE).toArray:=by
   apply Array.ext';rw [Array.toList_modify];show (ls.map TtoE).modify j _=ls.map TtoE
   rw [modify_eq_set _ _ _ _ f];have:({ TtoE x with key:=Tek k }:MapEntry)=TtoE x:=by rw [← n]
   rw [this];exact WideElems.set_self _ _ _ f
  have s:=Tstays27 k w;have e1:Tlk ls k=some x.2.1:=Tlk_at hg.1 h2 h3;refine ⟨x.2.2,ls,a, ?_,fun val=>⟨ls.set j (x.1,val,x.2.2),a,Tgood_set hg h2 val,fun i=>by have:=Tlk_set (j:=i) (v:=val) hg.1 h2 h3;rwa [← h3] at this ⊢,by simp [e1],fun o b=>?_⟩⟩
  ·rw [e1];have p:(TtoE x).born=x.2.2:=rfl;simp only [Instr.mapEntry,Sem.run_bind,run_underlying y,MapKept.run_getObj_map m,t,g,Result.andThen,A,Option.map_some,Option.getD_some,n,s,l,MapKept.run_setObj_map _ m,Sem.run_pure,p,setBlock]
  ·unfold TEM at b
   have c:(ls.map TtoE).toArray.findIdx? (fun e=>((e.born:Nat):Int) == ((x.2.2:Nat):Int))=some j:=by
    rw [WideElems.findIdx_arr]
    have q:((ls.map TtoE).map (fun e=>e.born)).Nodup:=by
     rw [List.map_map];exact hg.2.1
    exact WideElems.findIdx_born q (j:=j) (e0:=TtoE x) f
   have d:(ls.map TtoE).toArray.modify j (fun e=>{ e with val:=val })=((ls.set j (x.1,val,x.2.2)).map TtoE).toArray:=by
    apply Array.ext';rw [Array.toList_modify];show (ls.map TtoE).modify j _=(ls.set j (x.1,val,x.2.2)).map TtoE
    rw [modify_eq_set _ _ _ _ f,List.map_set];rfl
   simp only [Instr.entryStore,Sem.run_bind,MapKept.run_getObj_map b,Result.andThen,asInt,asIntOf,goInt,Sem.run_pure,c,d,MapKept.run_setObj_map _ b,setBlock]
end Go.Proofs.YtnpboeodhpenmaaGreatDoor
