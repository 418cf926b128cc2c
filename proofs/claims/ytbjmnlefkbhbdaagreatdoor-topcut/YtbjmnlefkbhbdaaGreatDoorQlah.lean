/- A part of it. -/
import Derived.Test.YtbjmnlefkbhbdaaGreatDoorQlaf
import Derived.Deep.AppendLies
set_option maxRecDepth 100000
set_option maxHeartbeats 40000000
namespace Go.Proofs.YtbjmnlefkbhbdaaGreatDoor
open Go.RowKit Go.ChangeMaps
variable {f w w':World} {L l:List T3} {B b base c d g i j k n pb r:Nat} {t u:T3} {e:E4} {cr:E4→Bool} {v:Value} {kd:E4→Int} {part:Nat→Int} {M:Nat→M6} {row:Option Nat} {a:Option Addr} {num p q s x y:Int} {m:M6}
def gix (l:List T3) (e:E4):List Int:=((List.range l.length).filter fun i=>hasT (l.getD i (0,0,0)) e).map fun (i:Nat)=>(i:Int)
theorem gix_nil (e:E4):gix [] e=[]:=rfl
theorem gix_snoc (l:List T3) (t:T3) (e:E4):gix (l ++ [t]) e=gix l e ++ if hasT t e=true then [(l.length:Int)] else []:=by
 unfold gix;rw [List.length_append,List.length_singleton,List.range_succ,List.filter_append,List.map_append];congr 1
 ·congr 1
  apply List.filter_congr;intro i hi;have a:i<l.length:=by simpa using hi
  simp [a,List.getElem_append_left,Nat.lt_succ_of_lt a]
 ·have e1:(l ++ [t]).getD l.length (0,0,0)=t:=ν
  cases h:hasT t e
  ·simp [h]
  ·simp [h]
theorem gix_len (l:List T3) (e:E4):(gix l e).length≤l.length:=by
 unfold gix;rw [List.length_map];exact Nt (List.length_filter_le _ _) ν
theorem gix_mem {j:Int}:j∈gix l e↔∃ i:Nat,∃ h:i<l.length,j=(i:Int)∧hasT l[i] e=true:=by
 unfold gix;simp only [List.mem_map,List.mem_filter,List.mem_range];constructor
 ·rintro ⟨i,⟨hi,a⟩,rfl⟩;exact ⟨i,hi,rfl,by simpa [hi] using a⟩
 ·rintro ⟨i,hi,rfl,a⟩;exact ⟨i,⟨hi,by simpa [hi] using a⟩,rfl⟩
def GP (w:World) (base ra:Nat) (vt:Value) (G:E4→List Int):Prop :=
 ∃ ls clock,EM w ra ls clock∧Good ls clock∧(∀ e,lk ls e=none→G e=[]) ∧
  (∀ e v,lk ls e=some v→w.ownsRow base 3 1 v (G e).length ((G e).map (Value.int .i64))∧G e≠[]∧(vt.ownBlock=none∨v.ownBlock≠vt.ownBlock)) ∧
  (∀ e e' v v',e≠e'→lk ls e=some v→lk ls e'=some v'→v.ownBlock≠v'.ownBlock)
theorem Xu {e:TypeId} {size:Nat} {c:List Value} (h:w.ownsRow base e size v n c) (d:0<n):∃ g,v.ownBlock=some g∧base≤g∧g<w.heap.size:=by
 rcases h.2 with ⟨rfl,h0⟩ | ⟨g,a,b,rfl,h2,h3,h4⟩
 ·omega
 ·refine ⟨g,δ2,h2, ?_⟩;exact (Array.getElem?_eq_some_iff.1 h3).1
theorem Zk {e:TypeId} {size:Nat} {a:List Value} (h:w.ownsRow base e size v n a):∀ g,v.ownBlock=some g→base≤g∧g<w.heap.size:=fun g hg=>h.lt g hg
theorem EM.lt {ls:List (E4×Value×Nat)} (h:EM w r ls c):r<w.heap.size:=(Array.getElem?_eq_some_iff.1 h).1
theorem EM.grown {ls:List (E4×Value×Nat)} (h:EM w r ls c) (hg:w.grownBy w' row) (a:some r≠row):EM w' r ls c:=(hg.block r h.lt a).trans h
theorem Qv {v:World} (h:Bl w v):w.grownBy v none:=⟨h.os,h.tape,h.output,h.size,fun k a _=>h.block k a⟩
theorem GP.kept {a:Nat} {b:Value} {G:E4→List Int} (h:GP w base a b G) (hb:Bl w w'):GP w' base a b G:=by
 obtain ⟨ls,c,h1,h2,h3,h4,h5⟩:=h;refine ⟨ls,c,h1.grown (Qv hb) ν,h2,h3,fun e v f=>?_,h5⟩;obtain ⟨a1,d,a3⟩:=h4 e v f;exact ⟨Qh a1 hb,d,a3⟩
theorem GP.other {f:Nat} {b vt':Value} {G:E4→List Int} (h:GP w base f b G) (m:f<base) (hg:w.grownBy w' b.ownBlock) (d:∀ g,b.ownBlock=some g→base≤g) (hl:vt'.ownBlock=b.ownBlock∨vt'.ownBlock=some w.heap.size):GP w' base f vt' G:=by
 obtain ⟨ls,c,h1,h2,h3,h4,h5⟩:=h;refine ⟨ls,c,h1.grown hg (fun e=>by have:=d _ e.symm;omega),h2,h3,fun e v j=>?_,h5⟩;obtain ⟨a1,i,a3⟩:=h4 e v j;obtain ⟨g,a,k,l⟩:=Xu a1 (List.length_pos_iff.2 i);refine ⟨a1.kept hg ?_,i, ?_⟩
 ·rcases a3 with a3 | a3
  ·rw [a,a3];exact Or.inr ν
  ·exact Or.inr a3
 ·rcases hl with hl | hl
  ·rw [hl];exact a3
  ·rw [hl,a];refine Or.inr (fun e=>?_);simp at e;omega
theorem zero70 (w:World):(zeroValue 23).run Tryz.prog w=.ok SN w:=μ
theorem GP.entry {J:Value} {G:E4→List Int} (h:GP w base k J G) (Q:k<base) (L:∀ g,J.ownBlock=some g→g<w.heap.size) (e:E4) (n:Int) :
  ∃ v0 st W2,(Instr.mapEntry 62 (.map (some k)) (ek e)).run Tryz.prog w=.ok (.tuple #[v0,I st]) W2∧w.grownBy W2 (some k)∧W2.heap.size=w.heap.size∧W2.ownsRow base 3 1 v0 (G e).length ((G e).map (Value.int .i64)) ∧
   ∀ v' q,W2.grownBy q v0.ownBlock→q.ownsRow base 3 1 v' ((G e).length+1) ((G e).map (Value.int .i64) ++ [I n])→(v'.ownBlock=v0.ownBlock∨v'.ownBlock=some W2.heap.size) →
    ∃ W4,(Instr.entryStore 62 (.map (some k)) (I st) v').run Tryz.prog q=.ok () W4∧q.grownBy W4 (some k)∧GP W4 base k J (fun j=>if j=e then G e ++ [n] else G j):=by
 obtain ⟨ls,c,h1,h2,h3,h4,h5⟩:=h;obtain ⟨st,f,c1,z,K⟩:=entry27 Tryz.underlying62 zero70 h1 h2 e;have hb:=h1;unfold EM at hb;have t:=Yc hb (.map (f.map toE).toArray c1)
 have m:∀ {W:World} {v:Value} {n:Nat} {O:List Value},W.ownsRow base 3 1 v n O→v.ownBlock=none∨v.ownBlock≠some k:=fun {W v n O} P=>by
  cases F:v.ownBlock with
  | none=>exact Or.inl rfl
  | some g =>
   refine Or.inr (fun e1=>?_);have:=(P.lt g F).1;simp at e1;omega
 have B:(setBlock w k (.map (f.map toE).toArray c1)).ownsRow base 3 1 ((lk ls e).getD SN) (G e).length ((G e).map (Value.int .i64)):=by
  cases hl:lk ls e with
  | none =>
   rw [h3 e hl];exact World.ownsRow_nil _ _ _ _
  | some v =>
   have a:=(h4 e v hl).1;exact a.kept t (m a)
 have A:(setBlock w k (.map (f.map toE).toArray c1)).heap.size=w.heap.size:=by simp [setBlock]
 refine ⟨_,(st:Int),_,z,t,A,B,fun v' q y o r=>?_⟩;obtain ⟨C,M,g1,g2,_,g3⟩:=K v'
 have s:EM q k f c1:=by
  have e0:EM (setBlock w k (.map (f.map toE).toArray c1)) k f c1:=heap_setBlock_same hb _;refine e0.grown y ?_;rcases m B with e1 | e1
  ·rw [e1];simp
  ·exact fun e2=>e1 e2.symm
 have p:=Yc s (.map (C.map toE).toArray M);refine ⟨_,g3 q s,p,C,M,heap_setBlock_same s _,g1,fun j b=>?_,fun j v b=>?_,fun j H v N x b d=>?_⟩
 ·rw [g2 j] at b;by_cases e1:j=e
  ·rw [if_pos e1] at b
   cases b
  ·rw [if_neg e1] at b;dsimp only;rw [if_neg e1];exact h3 j b
 ·rw [g2 j] at b;by_cases e1:j=e
  ·dsimp only;rw [if_pos e1] at b ⊢;simp at b;subst b;refine ⟨?_,ν, ?_⟩
   ·have:=o.kept p (m o);simpa using this
   ·rcases r with hl | hl
    ·cases hlk:lk ls e with
     | none =>
      rw [hlk] at hl;have:v'.ownBlock=none:=by rw [hl];rfl
      obtain ⟨g,hg,_⟩:=Xu o γ;rw [hg] at this
      cases this
     | some v =>
      rw [hlk] at hl;rw [hl];exact (h4 e v hlk).2.2
    ·rw [hl]
     cases hvb:J.ownBlock with
     | none=>exact Or.inl rfl
     | some g =>
      have:=L g hvb;refine Or.inr (fun e2=>?_);simp at e2;omega
  ·dsimp only;rw [if_neg e1] at b ⊢;obtain ⟨a1,D,a3⟩:=h4 j v b;refine ⟨?_,D,a3⟩;have b1:=a1.kept t (m a1)
   have b2:q.ownsRow base 3 1 v (G j).length ((G j).map (Value.int .i64)):=by
    refine b1.kept y ?_
    cases hlk:lk ls e with
    | none =>
     obtain ⟨g,hg,_⟩:=Xu a1 (List.length_pos_iff.2 D);rw [hg];exact Or.inr δ2
    | some v0=>exact Or.inr (h5 j e v v0 e1 b hlk)
   exact b2.kept p (m b2)
 ·rw [g2 j] at b;rw [g2 H] at d
  have l:∀ i u,i≠e→lk ls i=some u→u.ownBlock≠v'.ownBlock:=fun i u hi F=>by
   obtain ⟨a1,D,_⟩:=h4 i u F;obtain ⟨g,hg,_,p⟩:=Xu a1 (List.length_pos_iff.2 D);rcases r with hl | hl
   ·cases hlk:lk ls e with
    | none =>
     rw [hlk] at hl;rw [hl,hg];simp [Value.ownBlock]
    | some v0 =>
     rw [hlk] at hl;rw [hl];exact h5 i e u v0 hi F hlk
   ·rw [hl,hg,A];intro e2;simp at e2;omega
  by_cases e1:j=e
  ·rw [if_pos e1] at b;rw [if_neg (fun e2=>x (e1.trans e2.symm))] at d;simp at b;subst b;exact fun e2=>l H N (fun E=>x (e1.trans E.symm)) d e2.symm
  ·rw [if_neg e1] at b;by_cases E:H=e
   ·rw [if_pos E] at d;simp at d;subst d;exact l j v e1 b
   ·rw [if_neg E] at d;exact h5 j H v N x b d
def Pc (w:World) (pb ra rk:Nat) (vt:Value):Prop :=
 At w pb 0 vt∧At w pb 1 (.map (some ra))∧At w pb 2 (.map (some rk))∧Fn w pb 0
theorem Pc.lt {a:Nat} {c:Value} (h:Pc w pb a b c):pb<w.heap.size:=bk h.1
theorem Pc.grown {e:Value} (h:Pc w pb c d e) (hg:w.grownBy w' row) (b:some pb≠row):Pc w' pb c d e :=
 ⟨hg.cell h.1 b,hg.cell h.2.1 b,hg.cell h.2.2.1 b,(Fo (a:=⟨pb,0,none⟩) (hg.block pb h.lt b)).trans h.2.2.2⟩
theorem Pc.apart {e:Value} {ls:List (E4×Value×Nat)} (h:Pc w pb b d e) (a:EM w r ls c):pb≠r:=by
 rintro rfl;have:=h.1;unfold EM at a;simp [World.cell?,a] at this
def PP (w0 w:World) (base pb ra rk:Nat) (vt:Value) (L:List T3) (G:E4→List Int):Prop :=
 Pc w pb ra rk vt∧w.ownsRow base 44 3 vt L.length (flatV L)∧GP w base ra vt G∧(∃ c,EM w rk [] c∧Good [] c)∧(w0.heap.size≤pb∧pb<base∧w0.heap.size≤ra∧ra<base∧w0.heap.size≤rk∧rk<base∧ra≠rk∧base≤w.heap.size)∧Bl w0 w
theorem PP.kept {e:Value} {G:E4→List Int} (h:PP f w base pb b d e L G) (hb:Bl w w'):PP f w' base pb b d e L G:=by
 obtain ⟨h1,h2,h3,⟨c,h4,a⟩,⟨a1,g,a3,a4,a5,i,j,k⟩,h6⟩:=h;exact ⟨h1.grown (Qv hb) ν,Qh h2 hb,h3.kept hb,⟨c,h4.grown (Qv hb) ν,a⟩,⟨a1,g,a3,a4,a5,i,j,Nt k hb.size⟩,Qb h6 hb⟩
theorem PP.entry {F wr:World} {D:Nat} {p:Value} {G:E4→List Int} (h:PP F wr base pb i D p L G) (hb:Bl wr w) (e:E4) (n:Int) :
  ∃ v0 st l,(Instr.mapEntry 62 (.map (some i)) (ek e)).run Tryz.prog w=.ok (.tuple #[v0,I st]) l∧w.grownBy l (some i)∧l.heap.size=w.heap.size∧l.ownsRow base 3 1 v0 (G e).length ((G e).map (Value.int .i64))∧(∀ g,v0.ownBlock=some g→base≤g∧g<wr.heap.size) ∧
   ∀ v' s,l.grownBy s v0.ownBlock→s.ownsRow base 3 1 v' ((G e).length+1) ((G e).map (Value.int .i64) ++ [I n])→(v'.ownBlock=v0.ownBlock∨v'.ownBlock=some l.heap.size) →
    ∃ u,(Instr.entryStore 62 (.map (some i)) (I st) v').run Tryz.prog s=.ok () u∧s.grownBy u (some i)∧PP F u base pb i D p L (fun j=>if j=e then G e ++ [n] else G j):=by
 have m:=h.kept hb;obtain ⟨h1,h2,h3,⟨c,h4,A⟩,⟨a1,H,a3,a4,a5,J,y,M⟩,h6⟩:=m
 have a:∃ ls c,EM w i ls c:=by
  obtain ⟨ls,c,q,_⟩:=h3;exact ⟨ls,c,q⟩
 obtain ⟨O,cr,a⟩:=a;obtain ⟨v0,st,l,r1,r2,r3,P,Q⟩:=h3.entry a4 (fun g hg=>(Zk h2 g hg).2) e n
 have f:∀ g,v0.ownBlock=some g→base≤g∧g<wr.heap.size:=by
  obtain ⟨U,V,⟨ls,K,b1,b2,b3,b4,N⟩,W⟩:=h;have z:EM w i ls K:=b1.grown (Qv hb) ν;obtain ⟨E,C,c1,d,_⟩:=entry27 Tryz.underlying62 zero70 z b2 e;rw [d] at r1;simp only [Result.ok.injEq,Value.tuple.injEq,Array.mk.injEq,List.cons.injEq] at r1;obtain ⟨⟨rfl,_⟩,_⟩:=r1;intro g hg
  cases hl:lk ls e with
  | none =>
   rw [hl] at hg;simp [Value.ownBlock] at hg
  | some v =>
   rw [hl] at hg;exact Zk (b4 e v hl).1 g hg
 refine ⟨v0,st,l,r1,r2,r3,P,f,fun v' s g1 g2 g3=>?_⟩;obtain ⟨u,R,t,T⟩:=Q v' s g1 g2 g3
 have o:∀ k:Nat,k<base→some k≠v0.ownBlock:=fun k m e1=>by
  have:=(f k e1.symm).1;omega
 have b:p.ownBlock=none∨p.ownBlock≠some i:=by
  cases hu:p.ownBlock with
  | none=>exact Or.inl rfl
  | some g =>
   refine Or.inr (fun e1=>?_);have:=(Zk h2 g hu).1;simp at e1;omega
 have B:p.ownBlock=none∨p.ownBlock≠v0.ownBlock:=by
  obtain ⟨ls,K,b1,b2,b3,b4,N⟩:=h3;obtain ⟨E,C,c1,d,_⟩:=entry27 Tryz.underlying62 zero70 b1 b2 e;rw [d] at r1;simp only [Result.ok.injEq,Value.tuple.injEq,Array.mk.injEq,List.cons.injEq] at r1;obtain ⟨⟨rfl,_⟩,_⟩:=r1
  cases hl:lk ls e with
  | none =>
   cases hu:p.ownBlock with
   | none=>exact Or.inl rfl
   | some g=>exact Or.inr δ2
  | some v =>
   rcases (b4 e v hl).2.2 with q | q
   ·exact Or.inl q
   ·exact Or.inr (fun e1=>q e1.symm)
 have x:some pb≠some i:=fun e1=>h1.apart a (by simpa using e1);refine ⟨u,R,t,((h1.grown r2 x).grown g1 (o pb H)).grown t x,((h2.kept r2 b).kept g1 B).kept t b,T,⟨c,((h4.grown r2 (fun e1=>y (by simp at e1;exact e1.symm))).grown g1 (o D J)).grown t (fun e1=>y (by simp at e1;exact e1.symm)),A⟩,⟨a1,H,a3,a4,a5,J,y,Nt M (Nt r2.size (Nt g1.size t.size))⟩, ?_⟩;have r:F.heap.size≤w.heap.size:=h6.size;have k1:=h6.grown r2 r (fun k m=>by simp at m;omega);have k2:=k1.grown g1 (Nt r r2.size) (fun k m=>by have:=(f k m).1;omega);exact k2.grown t (Nt r (Nt r2.size g1.size)) (fun k m=>by simp at m;omega)
theorem PP.pushed {D wr j:World} {o a:Nat} {r:Value} {G:E4→List Int} (h:PP D wr base pb n o r L G) (hb:Bl wr w) (hg:w.grownBy j r.ownBlock)
  (d:j.ownsRow base 44 3 (.slice (Az g) (L.length+1) a) (L.length+1) (flatV L ++ [I t.1,I t.2.1,I t.2.2])) (hl:r.ownBlock=some g∨g=w.heap.size) :
  PP D (j.setCell ⟨pb,0,none⟩ (.slice (Az g) (L.length+1) a)) base pb n o (.slice (Az g) (L.length+1) a) (L ++ [t]) G:=by
 obtain ⟨h1,h2,h3,⟨c,h4,s⟩,⟨a1,z,a3,a4,a5,A,E,F⟩,h6⟩:=h.kept hb
 have f:∀ k:Nat,k<base→some k≠r.ownBlock:=fun k l e1=>by
  have:=(Zk h2 k e1.symm).1;omega
 have i:(Value.slice (Az g) (L.length+1) a).ownBlock=some g:=rfl;have m:=h1.grown hg (f pb z)
 have b:∃ ls c,EM w n ls c:=by
  obtain ⟨ls,c,q,_⟩:=h3;exact ⟨ls,c,q⟩
 obtain ⟨P,cr,b⟩:=b;have x:pb≠n:=h1.apart b;have y:pb≠o:=h1.apart h4
 have M:=h3.other (vt':=.slice (Az g) (L.length+1) a) a4 hg (fun g hg=>(Zk h2 g hg).1) (by
  rw [i];rcases hl with q | q
  ·exact Or.inl q.symm
  ·exact Or.inr (by rw [q]))
 have hs:j.grownBy (j.setCell ⟨pb,0,none⟩ (.slice (Az g) (L.length+1) a)) (some pb):=by
  have hb:=Below.setCell (w:=j) (p:=⟨pb,0,none⟩) (Below.refl pb j) (Nr _) (.slice (Az g) (L.length+1) a)
  exact ⟨hb.os,hb.tape,hb.output,hb.size,fun k _ l=>by
   have:k≠pb:=fun e1=>l (by rw [e1]);exact Below.heap_setCell _ _ _ k this⟩
 have O:base≤g:=(Zk d g i).1
 have u:some g≠some pb:=fun e1=>by
  simp at e1;omega
 refine ⟨⟨?_, ?_, ?_, ?_⟩, ?_, ?_,⟨c,(h4.grown hg (f o A)).grown hs (fun e1=>y (by simpa using e1.symm)),s⟩,⟨a1,z,a3,a4,a5,A,E,Nt F (Nt hg.size hs.size)⟩, ?_⟩
 ·exact Cs _ _ _ m.1
 ·exact (Co _ _ _ _ ν).trans m.2.1
 ·exact (Co _ _ _ _ ν).trans m.2.2.1
 ·exact (Fz _ _ _ _).trans m.2.2.2
 ·rw [List.length_append,List.length_singleton,Uy];exact d.kept hs (Or.inr (by rw [i];exact u))
 ·obtain ⟨ls,J,b1,b2,b3,b4,H⟩:=M;refine ⟨ls,J,b1.grown hs (fun e1=>x (by simpa using e1.symm)),b2,b3,fun e v N=>?_,H⟩;obtain ⟨B,C,Q⟩:=b4 e v N;refine ⟨B.kept hs ?_,C,Q⟩;obtain ⟨R,e1,e2,_⟩:=Xu B (List.length_pos_iff.2 C);rw [e1];exact Or.inr (fun K=>by simp at K;omega)
 ·have k1:=h6.grown hg h6.size (fun k l=>by have:=(Zk h2 k l).1;omega);exact k1.grown hs (Nt h6.size hg.size) (fun k l=>by simp at l;omega)
def AdjC (cr:E4→Bool) (t u:T3):Prop:=u≠t∧∃ e,hasT t e=true∧hasT u e=true∧cr e=true
theorem AdjC.symm (h:AdjC cr t u):AdjC cr u t:=⟨fun e=>h.1 e.symm,h.2.imp fun _ a=>⟨a.2.1,a.1,a.2.2⟩⟩
def ReachC (cr:E4→Bool) (l:List T3) (t u:T3):Prop:=t∈l∧∀ p:T3→Prop,p t→(∀ a b,p a→b∈l→AdjC cr a b→p b)→p u
theorem ReachC.here (h:t∈l):ReachC cr l t t:=⟨h,fun _ k _=>k⟩
theorem ReachC.step {v:T3} (h:ReachC cr l t u) (b:v∈l) (a:AdjC cr u v):ReachC cr l t v:=⟨h.1,fun p k s=>s _ _ (h.2 p k s) b a⟩
theorem ReachC.ind {motive:∀ u,ReachC cr l t u→Prop} (here:∀ h:t∈l,motive t (ReachC.here h))
  (step:∀ {u v} (h:ReachC cr l t u) (c:v∈l) (b:AdjC cr u v),motive u h→motive v (ReachC.step h c b)) (h:ReachC cr l t u):motive u h:=by
 obtain ⟨_,m⟩:=h.2 (fun x=>∃ k:ReachC cr l t x,motive x k) ⟨ReachC.here h.1,here h.1⟩ (fun _ _ ⟨_,m⟩ hb a=>⟨_,step _ hb a m⟩);exact m
theorem ReachC.mem (h:ReachC cr l t u):t∈l∧u∈l:=by
 induction h using ReachC.ind with
 | here h=>exact ⟨h,h⟩
 | step _ hv _ ih=>exact ⟨ih.1,hv⟩
theorem ReachC.trans {v:T3} (h:ReachC cr l t u) (k:ReachC cr l u v):ReachC cr l t v:=by
 induction k using ReachC.ind with
 | here _=>exact h
 | step _ hv ha ih=>exact ih.step hv ha
theorem ReachC.symm (h:ReachC cr l t u):ReachC cr l u t:=by
 induction h using ReachC.ind with
 | here h=>exact .here h
 | step h hv ha ih=>exact ((ReachC.here hv).step h.mem.2 ha.symm).trans ih
theorem reach_all:ReachC (fun _=>true) l t u↔Reach l t u:=by
 constructor
 ·intro h;induction h using ReachC.ind with
  | here h=>exact .here h
  | step _ hv ha ih=>exact ih.step hv ⟨ha.1,ha.2.imp fun _ a=>⟨a.1,a.2.1⟩⟩
 ·intro h;induction h using Reach.ind with
  | here h=>exact .here h
  | step _ hv ha ih=>exact ih.step hv ⟨ha.1,ha.2.imp fun _ a=>⟨a.1,a.2,rfl⟩⟩
def lab (part:Nat→Int) (num:Int) (R:List Nat):Nat→Int:=fun i=>if i∈R then num else part i
def Sp (cr:E4→Bool) (L:List T3) (part:Nat→Int) (f:Nat) (R:List Nat):Prop :=
 f∈R∧R.Nodup∧∀ i∈R,∃ h:i<L.length,part i<0∧∃ hf:f<L.length,ReachC cr L L[f] L[i]
def DoneE (L:List T3) (part:Nat→Int) (R:List Nat) (e:E4):Prop := ∀ j (hj:j<L.length),hasT L[j] e=true→j∈R∨0≤part j
def DoneT (cr:E4→Bool) (L:List T3) (part:Nat→Int) (R:List Nat) (t:T3) (k:Nat):Prop := ∀ k',k'<k→cr (edg t k')=true→DoneE L part R (edg t k')
theorem DoneE.mono {R a:List Nat} (h:DoneE L part R e) (hs:∀ i∈R,i∈a):DoneE L part a e:=fun j b c=>(h j b c).imp (hs j) id
theorem DoneT.mono {R a:List Nat} (h:DoneT cr L part R t k) (hs:∀ i∈R,i∈a):DoneT cr L part a t k:=fun d c b=>(h d c b).mono hs
theorem erase_len {R:List Nat} (n:Nat) (_hn:R.Nodup):R.length≤(R.erase n).length+1:=by
 by_cases h:n∈R
 ·rw [List.length_erase_of_mem h];omega
 ·rw [List.erase_of_not_mem h];omega
theorem Yy:∀ (n:Nat) (R:List Nat),R.Nodup→(∀ i∈R,i<n)→R.length≤n
 | 0,R,_,h=>by
  cases R with
  | nil=>simp
  | cons a r=>exact absurd (h a ν) γ
 | n+1,R,hn,h=>by
  have h1:=Yy n (R.erase n) (hn.erase n) (fun i hi=>by
   have h2:=h i (List.mem_of_mem_erase hi)
   have h3:i≠n:=fun e=>by
    subst e;exact (List.Nodup.not_mem_erase hn) hi
   omega)
  have:=erase_len n hn;omega
theorem Sp.len {f:Nat} {R:List Nat} (h:Sp cr L part f R):R.length≤L.length:=Yy _ _ h.2.1 (fun i hi=>(h.2.2 i hi).1)
theorem Sp.found {f:Nat} {R:List Nat} (h:Sp cr L part f R) (l:L.Nodup) (hi:i∈R) (g:j<L.length) (m:j ∉ R) (hp:part j<0) (o:cr e=true) (h1:∀ hi':i<L.length,hasT L[i] e=true) (h2:hasT L[j] e=true):Sp cr L part f (R ++ [j]):=by
 obtain ⟨d,q,p,hr⟩:=h.2.2 i hi;refine ⟨List.mem_append_left _ h.1, ?_,fun k c=>?_⟩
 ·rw [List.nodup_append];refine ⟨h.2.1,ν,fun a n b hb=>?_⟩;simp at hb;subst hb;exact fun e=>m (e ▸ n)
 ·rcases List.mem_append.1 c with c | c
  ·exact h.2.2 k c
  ·simp at c;subst c;refine ⟨g,hp,p,hr.step (Lm g) ⟨fun e1=>?_,e,h1 d,h2,o⟩⟩;have:=Jp l g d e1;exact m (this ▸ hi)
theorem lab_found (part:Nat→Int) (num:Int) (R:List Nat) (j:Nat):lab part num (R ++ [j])=fun i=>if i=j then num else lab part num R i:=by
 funext i
 unfold lab;by_cases e:i=j
 ·simp [e]
 ·simp [e]
def ZRow (w:World) (g n:Nat) (f:Nat→Int):Prop := ∀ i,i<n→At w g i (I (f i))∧Fn w g i
theorem ZRow.grown {f:Nat→Int} (h:ZRow w g n f) (hg:w.grownBy w' row) (b:some g≠row):ZRow w' g n f:=fun i hi =>
 ⟨hg.cell (h i hi).1 b,(Fo (a:=⟨g,i,none⟩) (hg.block g (bk (h i hi).1) b)).trans (h i hi).2⟩
theorem ZRow.kept {f:Nat→Int} (h:ZRow w g n f) (hb:Bl w w'):ZRow w' g n f:=h.grown (Qv hb) ν
theorem ZRow.set {f:Nat→Int} (h:ZRow w g n f) (v:Int) (hi:i<n):ZRow (w.setCell ⟨g,i,none⟩ (I v)) g n (fun j=>if j=i then v else f j):=fun j a=>by
 refine ⟨?_,by (try simp only [I,Fn]);rw [Fz];exact (h j a).2⟩;show World.cell? _ _=_
 by_cases e:j=i
 ·subst e;(try simp only [I]);rw [Cs _ _ _ (h j a).1]
  simp
 ·(try simp only [I]);rw [Co _ _ _ _ (by simp <;> omega)]
  (try simp only [At,I,Fn,Az,Ad]);rw [(h j a).1]
  simp [e]
def PA (wE:World) (ad:Option Addr) (ra:Nat) (L:List T3):Prop :=
 TRow wE ad L∧∀ e,∃ a cap,Row wE a (gix L e)∧∀ wx:World,Bl wE wx→(Instr.lookup 62 (.map (some ra)) (ek e) false).run Tryz.prog wx=.ok (.slice a (gix L e).length cap) wx
theorem PA.kept {c:Option Addr} (h:PA w c d L) (hb:Bl w w'):PA w' c d L :=
 ⟨h.1.kept hb,fun e=>by
  obtain ⟨a,b,h1,h2⟩:=h.2 e;exact ⟨a,b,h1.kept hb,fun g f=>h2 g (Qb hb f)⟩⟩
theorem edg_ne (a:Kd t):edg t 0≠edg t 1∧edg t 0≠edg t 2∧edg t 1≠edg t 2:=by
 obtain ⟨x,y,k⟩:=t
 have b:k=0∨k=1∨k=2∨k=3:=by
  have h1:=a.1;have h2:=a.2;simp only at h1 h2;omega
 have o0:=Xq (x,y,k) 0;have q:∀ i,i<3→edg (x,y,k) i=if i=0 then (ue0 x y k,ue1 x y k,ue2 x y k,ue3 x y k) else if i=1 then (ue4 x y k,ue5 x y k,ue6 x y k,ue7 x y k) else (ue8 x y k,ue9 x y k,ue10 x y k,ue11 x y k):=fun i _=>rfl;have r0:e0 x y k (ue0 x y k) (ue1 x y k) (ue2 x y k) (ue3 x y k)=true:=by simp [e0,sameB]
 have r1:e1 x y k (ue4 x y k) (ue5 x y k) (ue6 x y k) (ue7 x y k)=true:=by simp [e1,sameB]
 have r2:e2 x y k (ue8 x y k) (ue9 x y k) (ue10 x y k) (ue11 x y k)=true:=by simp [e2,sameB]
 rw [q 0 γ,q 1 γ,q 2 γ];simp only [if_pos,Nat.one_ne_zero,show ¬ (2:Nat)=0 by omega,show ¬ (2:Nat)=1 by omega,if_false,ne_eq,Prod.mk.injEq];rcases b with rfl | rfl | rfl | rfl <;> simp only [Km,Kl,Kk,Kj,Ki,Kh,Kg,Kf,Ke,Kc,Kb,Ka] at r0 r1 r2 <;> omega
def Gi (L:List T3) (t:T3) (i:Nat):E4→List Int:=fun e =>
 gix L e ++ if (0<i∧e=edg t 0)∨(1<i∧e=edg t 1)∨(2<i∧e=edg t 2) then [(L.length:Int)] else []
theorem Gi_zero (L:List T3) (t:T3):Gi L t 0=gix L:=by
 funext e
 simp [Gi]
theorem Gi_three (L:List T3) (t:T3):Gi L t 3=gix (L ++ [t]):=by
 funext e
 rw [gix_snoc];unfold Gi;by_cases h:hasT t e=true
 ·obtain ⟨i,hi,a⟩:=Uf h;have:i=0∨i=1∨i=2:=γ;rw [if_pos h,if_pos];rcases this with rfl | rfl | rfl
  ·exact Or.inl ⟨γ,a.symm⟩
  ·exact Or.inr (Or.inl ⟨γ,a.symm⟩)
  ·exact Or.inr (Or.inr ⟨γ,a.symm⟩)
 ·rw [if_neg h,if_neg];rintro (⟨_,e1⟩ | ⟨_,e1⟩ | ⟨_,e1⟩) <;> exact h (by rw [e1];exact Xq _ _)
theorem Gi_len (L:List T3) (t:T3) (i:Nat) (e:E4):(Gi L t i e).length≤L.length+1:=by
 unfold Gi;rw [List.length_append];have:=gix_len L e;split <;> simp <;> omega
theorem Gi_step (L:List T3) (a:Kd t) (i:Nat) (hi:i<3):(fun j=>if j=edg t i then Gi L t i (edg t i) ++ [(L.length:Int)] else Gi L t i j)=Gi L t (i+1):=by
 obtain ⟨n1,n2,n3⟩:=edg_ne a;funext e
 have:i=0∨i=1∨i=2:=γ;rcases this with rfl | rfl | rfl
 ·by_cases h:e=edg t 0 <;> simp [Gi,h]
 ·by_cases h:e=edg t 1
  ·subst h;simp [Gi,n1.symm]
  ·simp [Gi,h]
 ·by_cases h:e=edg t 2
  ·subst h;simp [Gi,n2.symm,n3.symm]
  ·simp [Gi,h]
theorem idx32 (a0 a1 c a3 a4 a5 d e f a9 a b:Int) (w:World) :
  (Instr.index 213 (.agg #[I a0,I a1,I c,I a3,I a4,I a5,I d,I e,I f,I a9,I a,I b]) (I 0)).run Tryz.prog w=.ok (.agg #[I a0,I a1,I c,I a3]) w ∧
  (Instr.index 213 (.agg #[I a0,I a1,I c,I a3,I a4,I a5,I d,I e,I f,I a9,I a,I b]) (I 1)).run Tryz.prog w=.ok (.agg #[I a4,I a5,I d,I e]) w ∧
  (Instr.index 213 (.agg #[I a0,I a1,I c,I a3,I a4,I a5,I d,I e,I f,I a9,I a,I b]) (I 2)).run Tryz.prog w=.ok (.agg #[I f,I a9,I a,I b]) w:=by
 refine ⟨?_, ?_, ?_⟩ <;> kernel_rfl
def TB (w:World) (B:Nat) (x y k:Int):Prop:=w.heap[B]?=some (.cells #[I x,I y,I k] 44)
theorem TB.tr {k:Int} (h:TB w B x y k):Tr w B x y k:=by
 unfold TB at h;simp [Tr,World.cell?,h]
theorem TB.lt {k:Int} (h:TB w B x y k):B<w.heap.size:=(Array.getElem?_eq_some_iff.1 h).1
theorem TB.grown {k:Int} (h:TB w B x y k) (hg:w.grownBy w' row) (a:some B≠row):TB w' B x y k:=(hg.block B h.lt a).trans h
theorem TB.not_row {k:Int} {f:List Value} (h:TB w B x y k) (d:w.ownsRow base 3 1 v n f):some B≠v.ownBlock:=by
 rcases d.2 with ⟨rfl,_⟩ | ⟨g,b,c,rfl,_,a,_⟩
 ·simp [Value.ownBlock]
 ·intro e;obtain rfl:B=g:=by simpa [Value.ownBlock] using e
  unfold TB at h;rw [h] at a;simp at a
theorem TB.ne_map {k:Int} {ls:List (E4×Value×Nat)} (h:TB w B x y k) (a:EM w r ls c):some B≠some r:=by
 intro e;obtain rfl:B=r:=by simpa using e
 unfold EM at a;unfold TB at h;rw [h] at a
 cases a
theorem Xb (v:Value) (h:At w g 0 v):∀ j u,[v][j]?=some u→w.cell? ((⟨g,0,none⟩:Addr).add j)=some u:=by
 intro j u a;match j,a with
 | 0,a=>simp at a;subst a;simpa [Addr.add] using h
theorem Jx (n:Int):∀ u ∈ [I n],u.oneCell'=true:=by
 intro u a;simp at a;subst a;rfl
theorem Zd (x y k:Int):∀ u ∈ [I x,I y,I k],u.oneCell'=true:=by
 intro u a;simp at a;rcases a with rfl | rfl | rfl <;> rfl
theorem add_any (w0:World) (x y k:Int) (base pb t rk f:Nat) (Q:Option Addr) (L:List T3) (w:World) (h:triB x y k=true) (hs:Steps w0) (hL:L.length≤300) (hp:PP w0 w base pb t rk (.slice Q L.length f) L (gix L)) :
  Cl 90 #[.pointer (Az pb),.agg #[I x,I y,I k]] w fun e w'=>e=.returned (.tuple #[])∧∃ ad' ccap',PP w0 w' base pb t rk (.slice ad' (L.length+1) ccap') (L ++ [(x,y,k)]) (gix (L ++ [(x,y,k)])):=by
 have HS:=Hd hs
 have hk:Kd (x,y,k):=by
  have:=h;simp only [triB,decide_eq_true_eq] at this;exact ⟨this.1,this.2.1⟩
 have HK:=Hd hk;obtain ⟨i3,an,ag,ah,ai⟩:=info_parts inf3;have Z:=H4 an ag ah ai;obtain ⟨ar,ae,aa,ab,ac⟩:=info_parts inf23;have Y:=H4 ae aa ab ac;have A:=Hd hp;obtain ⟨vt,au⟩:∃ v,v=Value.slice Q L.length f:=⟨_,rfl⟩;clear hs an ag ah ai ae aa ab ac hp hk;go_enter Tryz.func90,Tryz.ntmps90;go_wp2_with (go_at_call 136;refine (Zj _ _ _ _ h (HS.out.kept (Qc A.out.2.2.2.2.2))).mono ?_;rintro e w2 ⟨rfl,hb⟩;have aj:Hid (PP w0 w2 base pb t rk (.slice Q L.length f) L (gix L)∧TB w2 w.heap.size x y k):=⟨A.out.kept (Qb β1 hb),(hb.block w.heap.size ν).trans (heap_alloc_new w _)⟩;clear hb)
 go_loopg [8] 3 (fun g s8 wx=>∃ i:Nat,i≤3∧g=3 - i∧s8=I (i:Int)∧PP w0 wx base pb t rk (.slice Q L.length f) L (Gi L (x,y,k) i)∧TB wx w.heap.size x y k)
 case atStart=>exact ⟨0,γ,rfl,rfl,by rw [Gi_zero];exact aj.out.1,aj.out.2⟩
 case round =>
  clear A aj;obtain ⟨i,hi,rfl,rfl,X,hQ⟩:=hrel;obtain ⟨x0,x1,x2⟩:=idx32 (ue0 x y k) (ue1 x y k) (ue2 x y k) (ue3 x y k) (ue4 x y k) (ue5 x y k) (ue6 x y k) (ue7 x y k) (ue8 x y k) (ue9 x y k) (ue10 x y k) (ue11 x y k) wr;by_cases h1:i<3
  ·have aq:i=0∨i=1∨i=2:=γ;rcases aq with rfl | rfl | rfl
   ·have A:=Hd X;have HQ:=Hd hQ;have hk:=HK.out;clear X hQ;go_wp2;refine Qj (fun d hW0=>?_);have N:Bl wr d:=Θ;have R:=Hd N;have K:=Hd (A.out.kept N);have c0:At d pb 0 (.slice Q L.length f):=K.out.1.1;have c1:At d pb 1 (.map (some t)):=K.out.1.2.1;have c2:At d wr.heap.size 0 (I (ue0 x y k)):=η;have c3:At d wr.heap.size 1 (I (ue1 x y k)):=η;have c4:At d wr.heap.size 2 (I (ue2 x y k)):=η;have c5:At d wr.heap.size 3 (I (ue3 x y k)):=η;have z1:wr.heap.size+1=d.heap.size:=by rw [hW0];simp
    clear hW0 N;obtain ⟨v0,st,l,G,j,W,F,H,s⟩:=A.out.entry (w:=(d.alloc (.cells #[I (L.length:Int)] 3)).drew) (Qe (Qc R.out)) (edg (x,y,k) 0) (L.length:Int);have a8:(Instr.mapEntry 62 (.map (some t)) (.agg #[I (ue0 x y k),I (ue1 x y k),I (ue2 x y k),I (ue3 x y k)])).run Tryz.prog (d.alloc (.cells #[I (L.length:Int)] 3)).drew=.ok (.tuple #[v0,I st]) l:=G;clear G;have a4:=A.out.2.2.2.2.1
    have D:some pb≠some t:=fun e=>by
     obtain ⟨ls,c,q,_⟩:=A.out.2.2.1;exact A.out.1.apart q (by simpa using e)
    have p:some wr.heap.size≠some t:=fun e=>by
     simp at e;omega
    have m0:At l pb 0 (.slice Q L.length f):=j.cell (w:=(d.alloc (.cells #[I (L.length:Int)] 3)).drew) (Ql c0) (by exact D);have m1:At l pb 1 (.map (some t)):=j.cell (w:=(d.alloc (.cells #[I (L.length:Int)] 3)).drew) (Ql c1) (by exact D);have m2:At l wr.heap.size 0 (I (ue0 x y k)):=j.cell (w:=(d.alloc (.cells #[I (L.length:Int)] 3)).drew) (Ql c2) (by exact p);have m3:At l wr.heap.size 1 (I (ue1 x y k)):=j.cell (w:=(d.alloc (.cells #[I (L.length:Int)] 3)).drew) (Ql c3) (by exact p);have m4:At l wr.heap.size 2 (I (ue2 x y k)):=j.cell (w:=(d.alloc (.cells #[I (L.length:Int)] 3)).drew) (Ql c4) (by exact p);have m5:At l wr.heap.size 3 (I (ue3 x y k)):=j.cell (w:=(d.alloc (.cells #[I (L.length:Int)] 3)).drew) (Ql c5) (by exact p);have a7:At l d.heap.size 0 (I (L.length:Int)):=j.cell (w:=(d.alloc (.cells #[I (L.length:Int)] 3)).drew) ζ (fun e=>by simp at e;omega);have am:l.heap.size=d.heap.size+1:=by simpa using W
    have u:Hid (base≤l.heap.size∧(Gi L (x,y,k) 0 (edg (x,y,k) 0)).length+1≤1000):=⟨γ,Nat.succ_le_succ (Nt (Gi_len L (x,y,k) 0 _) γ)⟩
    have U:Hid (∀ (r:World),l.grownBy r v0.ownBlock→∀ a v,(a.block=pb∨a.block=wr.heap.size)→l.cell? a=some v→r.cell? a=some v):=fun r hg a v ha hc=>hg.cell hc (fun e=>by
     have:=H _ e.symm;rcases ha with ha | ha <;> omega)
    have E:some w.heap.size≠some t:=by
     obtain ⟨ls,c,q,_⟩:=A.out.2.2.1;exact HQ.out.ne_map q
    have V:Hid (TB l w.heap.size x y k):=TB.grown (w:=(d.alloc (.cells #[I (L.length:Int)] 3)).drew) (HQ.out.grown (Qv (Qe (Qc R.out))) ν) j E;have J:=Hd F
    have T:Hid (∀ g n r,l.grownBy r v0.ownBlock→r.ownsRow base 3 1 (.slice (Az g) ((Gi L (x,y,k) 0 (edg (x,y,k) 0)).length+1) n) ((Gi L (x,y,k) 0 (edg (x,y,k) 0)).length+1) ((Gi L (x,y,k) 0 (edg (x,y,k) 0)).map (Value.int .i64) ++ [I (L.length:Int)])→(v0.ownBlock=some g∨g=l.heap.size) →
     ∃ M,(Instr.entryStore 62 (.map (some t)) (I st) (.slice (Az g) ((Gi L (x,y,k) 0 (edg (x,y,k) 0)).length+1) n)).run Tryz.prog r=.ok () M∧r.grownBy M (some t)∧PP w0 M base pb t rk (.slice Q L.length f) L (Gi L (x,y,k) (0+1))):=fun g n r q1 q2 q3=>by
     obtain ⟨M,s1,s2,s3⟩:=s (.slice (Az g) ((Gi L (x,y,k) 0 (edg (x,y,k) 0)).length+1) n) r q1 q2 (q3.imp (fun q=>q.symm) (fun q=>by rw [q];rfl));exact ⟨M,s1,s2,Gi_step L hk 0 γ ▸ s3⟩
    clear F s H j W a4 K;obtain ⟨nG,z⟩:∃ m,m=(Gi L (x,y,k) 0 (edg (x,y,k) 0)).length:=⟨_,rfl⟩;obtain ⟨xG,P⟩:∃ m,m=(Gi L (x,y,k) 0 (edg (x,y,k) 0)).map (Value.int .i64):=⟨_,rfl⟩;rw [← z,← P] at J;rw [← z] at u;rw [← z,← P] at T;clear z P
    go_region_held3 (fun w'=>At w' pb 0 (.slice Q L.length f)∧At w' pb 1 (.map (some t))∧At w' wr.heap.size 0 (I (ue0 x y k))∧At w' wr.heap.size 1 (I (ue1 x y k))∧At w' wr.heap.size 2 (I (ue2 x y k))∧At w' wr.heap.size 3 (I (ue3 x y k)))
     ((first | (refine ⟨?_, ?_, ?_, ?_, ?_, ?_⟩ <;> (first | (with_reducible assumption) | (with_reducible refine Qi ?_;with_reducible assumption) | (with_reducible refine Qi ?_;with_reducible refine Ql ?_;with_reducible assumption) | (refine U.out _ b _ _ ?_ γ0;simp;done) | (refine C.cell (U.out _ b _ _ (by simp;done) γ0) γ0)))))
     (((refine step_append_lies _ γ2 (.tmp 16) (.tmp 22) 23 γ2 base 3 i3 (I 0) 1 8 Tryz.underlying23 Z.out.1 Z.out.2.1 Z.out.2.2.1 Z.out.2.2.2 rfl τ v0 nG xG γ2 J.out ⟨d.heap.size,0,none⟩ 1 1 [I (L.length:Int)] γ2 rfl (Xb _ a7) (Jx _) τ (by have:=u.out.2;unfold maxLen;omega) (by have:=u.out.2;omega) u.out.1 l.heap.size rfl ?_;intro g n r o b O ak;obtain ⟨M,ao,C,B⟩:=T.out g n r b o O;have a2:=Hd B;have a6:Hid (TB M w.heap.size x y k):=(V.out.grown b (V.out.not_row J.out)).grown C E;clear B o O)))
    go_wp2;go_roundg (3 - (0+1))
    case measure=>omega
    case rel=>exact ⟨0+1,γ,rfl,σ,a2.out,a6.out⟩
   ·have A:=Hd X;have HQ:=Hd hQ;have hk:=HK.out;clear X hQ;go_wp2;refine Qj (fun d hW0=>?_);have N:Bl wr d:=Θ;have R:=Hd N;have K:=Hd (A.out.kept N);have c0:At d pb 0 (.slice Q L.length f):=K.out.1.1;have c1:At d pb 1 (.map (some t)):=K.out.1.2.1;have c2:At d wr.heap.size 0 (I (ue4 x y k)):=η;have c3:At d wr.heap.size 1 (I (ue5 x y k)):=η;have c4:At d wr.heap.size 2 (I (ue6 x y k)):=η;have c5:At d wr.heap.size 3 (I (ue7 x y k)):=η;have z1:wr.heap.size+1=d.heap.size:=by rw [hW0];simp
    clear hW0 N;obtain ⟨v0,st,l,G,j,W,F,H,s⟩:=A.out.entry (w:=(d.alloc (.cells #[I (L.length:Int)] 3)).drew) (Qe (Qc R.out)) (edg (x,y,k) 1) (L.length:Int);have a8:(Instr.mapEntry 62 (.map (some t)) (.agg #[I (ue4 x y k),I (ue5 x y k),I (ue6 x y k),I (ue7 x y k)])).run Tryz.prog (d.alloc (.cells #[I (L.length:Int)] 3)).drew=.ok (.tuple #[v0,I st]) l:=G;clear G;have a4:=A.out.2.2.2.2.1
    have D:some pb≠some t:=fun e=>by
     obtain ⟨ls,c,q,_⟩:=A.out.2.2.1;exact A.out.1.apart q (by simpa using e)
    have p:some wr.heap.size≠some t:=fun e=>by
     simp at e;omega
    have m0:At l pb 0 (.slice Q L.length f):=j.cell (w:=(d.alloc (.cells #[I (L.length:Int)] 3)).drew) (Ql c0) (by exact D);have m1:At l pb 1 (.map (some t)):=j.cell (w:=(d.alloc (.cells #[I (L.length:Int)] 3)).drew) (Ql c1) (by exact D);have m2:At l wr.heap.size 0 (I (ue4 x y k)):=j.cell (w:=(d.alloc (.cells #[I (L.length:Int)] 3)).drew) (Ql c2) (by exact p);have m3:At l wr.heap.size 1 (I (ue5 x y k)):=j.cell (w:=(d.alloc (.cells #[I (L.length:Int)] 3)).drew) (Ql c3) (by exact p);have m4:At l wr.heap.size 2 (I (ue6 x y k)):=j.cell (w:=(d.alloc (.cells #[I (L.length:Int)] 3)).drew) (Ql c4) (by exact p);have m5:At l wr.heap.size 3 (I (ue7 x y k)):=j.cell (w:=(d.alloc (.cells #[I (L.length:Int)] 3)).drew) (Ql c5) (by exact p);have a7:At l d.heap.size 0 (I (L.length:Int)):=j.cell (w:=(d.alloc (.cells #[I (L.length:Int)] 3)).drew) ζ (fun e=>by simp at e;omega);have am:l.heap.size=d.heap.size+1:=by simpa using W
    have u:Hid (base≤l.heap.size∧(Gi L (x,y,k) 1 (edg (x,y,k) 1)).length+1≤1000):=⟨γ,Nat.succ_le_succ (Nt (Gi_len L (x,y,k) 1 _) γ)⟩
    have U:Hid (∀ (r:World),l.grownBy r v0.ownBlock→∀ a v,(a.block=pb∨a.block=wr.heap.size)→l.cell? a=some v→r.cell? a=some v):=fun r hg a v ha hc=>hg.cell hc (fun e=>by
     have:=H _ e.symm;rcases ha with ha | ha <;> omega)
    have E:some w.heap.size≠some t:=by
     obtain ⟨ls,c,q,_⟩:=A.out.2.2.1;exact HQ.out.ne_map q
    have V:Hid (TB l w.heap.size x y k):=TB.grown (w:=(d.alloc (.cells #[I (L.length:Int)] 3)).drew) (HQ.out.grown (Qv (Qe (Qc R.out))) ν) j E;have J:=Hd F
    have T:Hid (∀ g n r,l.grownBy r v0.ownBlock→r.ownsRow base 3 1 (.slice (Az g) ((Gi L (x,y,k) 1 (edg (x,y,k) 1)).length+1) n) ((Gi L (x,y,k) 1 (edg (x,y,k) 1)).length+1) ((Gi L (x,y,k) 1 (edg (x,y,k) 1)).map (Value.int .i64) ++ [I (L.length:Int)])→(v0.ownBlock=some g∨g=l.heap.size) →
     ∃ M,(Instr.entryStore 62 (.map (some t)) (I st) (.slice (Az g) ((Gi L (x,y,k) 1 (edg (x,y,k) 1)).length+1) n)).run Tryz.prog r=.ok () M∧r.grownBy M (some t)∧PP w0 M base pb t rk (.slice Q L.length f) L (Gi L (x,y,k) (1+1))):=fun g n r q1 q2 q3=>by
     obtain ⟨M,s1,s2,s3⟩:=s (.slice (Az g) ((Gi L (x,y,k) 1 (edg (x,y,k) 1)).length+1) n) r q1 q2 (q3.imp (fun q=>q.symm) (fun q=>by rw [q];rfl));exact ⟨M,s1,s2,Gi_step L hk 1 γ ▸ s3⟩
    clear F s H j W a4 K;obtain ⟨nG,z⟩:∃ m,m=(Gi L (x,y,k) 1 (edg (x,y,k) 1)).length:=⟨_,rfl⟩;obtain ⟨xG,P⟩:∃ m,m=(Gi L (x,y,k) 1 (edg (x,y,k) 1)).map (Value.int .i64):=⟨_,rfl⟩;rw [← z,← P] at J;rw [← z] at u;rw [← z,← P] at T;clear z P
    go_region_held3 (fun w'=>At w' pb 0 (.slice Q L.length f)∧At w' pb 1 (.map (some t))∧At w' wr.heap.size 0 (I (ue4 x y k))∧At w' wr.heap.size 1 (I (ue5 x y k))∧At w' wr.heap.size 2 (I (ue6 x y k))∧At w' wr.heap.size 3 (I (ue7 x y k)))
     ((first | (refine ⟨?_, ?_, ?_, ?_, ?_, ?_⟩ <;> (first | (with_reducible assumption) | (with_reducible refine Qi ?_;with_reducible assumption) | (with_reducible refine Qi ?_;with_reducible refine Ql ?_;with_reducible assumption) | (refine U.out _ b _ _ ?_ γ0;simp;done) | (refine C.cell (U.out _ b _ _ (by simp;done) γ0) γ0)))))
     (((refine step_append_lies _ γ2 (.tmp 16) (.tmp 22) 23 γ2 base 3 i3 (I 0) 1 8 Tryz.underlying23 Z.out.1 Z.out.2.1 Z.out.2.2.1 Z.out.2.2.2 rfl τ v0 nG xG γ2 J.out ⟨d.heap.size,0,none⟩ 1 1 [I (L.length:Int)] γ2 rfl (Xb _ a7) (Jx _) τ (by have:=u.out.2;unfold maxLen;omega) (by have:=u.out.2;omega) u.out.1 l.heap.size rfl ?_;intro g n r o b O ak;obtain ⟨M,ao,C,B⟩:=T.out g n r b o O;have a2:=Hd B;have a6:Hid (TB M w.heap.size x y k):=(V.out.grown b (V.out.not_row J.out)).grown C E;clear B o O)))
    go_wp2;go_roundg (3 - (1+1))
    case measure=>omega
    case rel=>exact ⟨1+1,γ,rfl,σ,a2.out,a6.out⟩
   ·have A:=Hd X;have HQ:=Hd hQ;have hk:=HK.out;clear X hQ;go_wp2;refine Qj (fun d hW0=>?_);have N:Bl wr d:=Θ;have R:=Hd N;have K:=Hd (A.out.kept N);have c0:At d pb 0 (.slice Q L.length f):=K.out.1.1;have c1:At d pb 1 (.map (some t)):=K.out.1.2.1;have c2:At d wr.heap.size 0 (I (ue8 x y k)):=η;have c3:At d wr.heap.size 1 (I (ue9 x y k)):=η;have c4:At d wr.heap.size 2 (I (ue10 x y k)):=η;have c5:At d wr.heap.size 3 (I (ue11 x y k)):=η;have z1:wr.heap.size+1=d.heap.size:=by rw [hW0];simp
    clear hW0 N;obtain ⟨v0,st,l,G,j,W,F,H,s⟩:=A.out.entry (w:=(d.alloc (.cells #[I (L.length:Int)] 3)).drew) (Qe (Qc R.out)) (edg (x,y,k) 2) (L.length:Int);have a8:(Instr.mapEntry 62 (.map (some t)) (.agg #[I (ue8 x y k),I (ue9 x y k),I (ue10 x y k),I (ue11 x y k)])).run Tryz.prog (d.alloc (.cells #[I (L.length:Int)] 3)).drew=.ok (.tuple #[v0,I st]) l:=G;clear G;have a4:=A.out.2.2.2.2.1
    have D:some pb≠some t:=fun e=>by
     obtain ⟨ls,c,q,_⟩:=A.out.2.2.1;exact A.out.1.apart q (by simpa using e)
    have p:some wr.heap.size≠some t:=fun e=>by
     simp at e;omega
    have m0:At l pb 0 (.slice Q L.length f):=j.cell (w:=(d.alloc (.cells #[I (L.length:Int)] 3)).drew) (Ql c0) (by exact D);have m1:At l pb 1 (.map (some t)):=j.cell (w:=(d.alloc (.cells #[I (L.length:Int)] 3)).drew) (Ql c1) (by exact D);have m2:At l wr.heap.size 0 (I (ue8 x y k)):=j.cell (w:=(d.alloc (.cells #[I (L.length:Int)] 3)).drew) (Ql c2) (by exact p);have m3:At l wr.heap.size 1 (I (ue9 x y k)):=j.cell (w:=(d.alloc (.cells #[I (L.length:Int)] 3)).drew) (Ql c3) (by exact p);have m4:At l wr.heap.size 2 (I (ue10 x y k)):=j.cell (w:=(d.alloc (.cells #[I (L.length:Int)] 3)).drew) (Ql c4) (by exact p);have m5:At l wr.heap.size 3 (I (ue11 x y k)):=j.cell (w:=(d.alloc (.cells #[I (L.length:Int)] 3)).drew) (Ql c5) (by exact p);have a7:At l d.heap.size 0 (I (L.length:Int)):=j.cell (w:=(d.alloc (.cells #[I (L.length:Int)] 3)).drew) ζ (fun e=>by simp at e;omega);have am:l.heap.size=d.heap.size+1:=by simpa using W
    have u:Hid (base≤l.heap.size∧(Gi L (x,y,k) 2 (edg (x,y,k) 2)).length+1≤1000):=⟨γ,Nat.succ_le_succ (Nt (Gi_len L (x,y,k) 2 _) γ)⟩
    have U:Hid (∀ (r:World),l.grownBy r v0.ownBlock→∀ a v,(a.block=pb∨a.block=wr.heap.size)→l.cell? a=some v→r.cell? a=some v):=fun r hg a v ha hc=>hg.cell hc (fun e=>by
     have:=H _ e.symm;rcases ha with ha | ha <;> omega)
    have E:some w.heap.size≠some t:=by
     obtain ⟨ls,c,q,_⟩:=A.out.2.2.1;exact HQ.out.ne_map q
    have V:Hid (TB l w.heap.size x y k):=TB.grown (w:=(d.alloc (.cells #[I (L.length:Int)] 3)).drew) (HQ.out.grown (Qv (Qe (Qc R.out))) ν) j E;have J:=Hd F
    have T:Hid (∀ g n r,l.grownBy r v0.ownBlock→r.ownsRow base 3 1 (.slice (Az g) ((Gi L (x,y,k) 2 (edg (x,y,k) 2)).length+1) n) ((Gi L (x,y,k) 2 (edg (x,y,k) 2)).length+1) ((Gi L (x,y,k) 2 (edg (x,y,k) 2)).map (Value.int .i64) ++ [I (L.length:Int)])→(v0.ownBlock=some g∨g=l.heap.size) →
     ∃ M,(Instr.entryStore 62 (.map (some t)) (I st) (.slice (Az g) ((Gi L (x,y,k) 2 (edg (x,y,k) 2)).length+1) n)).run Tryz.prog r=.ok () M∧r.grownBy M (some t)∧PP w0 M base pb t rk (.slice Q L.length f) L (Gi L (x,y,k) (2+1))):=fun g n r q1 q2 q3=>by
     obtain ⟨M,s1,s2,s3⟩:=s (.slice (Az g) ((Gi L (x,y,k) 2 (edg (x,y,k) 2)).length+1) n) r q1 q2 (q3.imp (fun q=>q.symm) (fun q=>by rw [q];rfl));exact ⟨M,s1,s2,Gi_step L hk 2 γ ▸ s3⟩
    clear F s H j W a4 K;obtain ⟨nG,z⟩:∃ m,m=(Gi L (x,y,k) 2 (edg (x,y,k) 2)).length:=⟨_,rfl⟩;obtain ⟨xG,P⟩:∃ m,m=(Gi L (x,y,k) 2 (edg (x,y,k) 2)).map (Value.int .i64):=⟨_,rfl⟩;rw [← z,← P] at J;rw [← z] at u;rw [← z,← P] at T;clear z P
    go_region_held3 (fun w'=>At w' pb 0 (.slice Q L.length f)∧At w' pb 1 (.map (some t))∧At w' wr.heap.size 0 (I (ue8 x y k))∧At w' wr.heap.size 1 (I (ue9 x y k))∧At w' wr.heap.size 2 (I (ue10 x y k))∧At w' wr.heap.size 3 (I (ue11 x y k)))
     ((first | (refine ⟨?_, ?_, ?_, ?_, ?_, ?_⟩ <;> (first | (with_reducible assumption) | (with_reducible refine Qi ?_;with_reducible assumption) | (with_reducible refine Qi ?_;with_reducible refine Ql ?_;with_reducible assumption) | (refine U.out _ b _ _ ?_ γ0;simp;done) | (refine C.cell (U.out _ b _ _ (by simp;done) γ0) γ0)))))
     (((refine step_append_lies _ γ2 (.tmp 16) (.tmp 22) 23 γ2 base 3 i3 (I 0) 1 8 Tryz.underlying23 Z.out.1 Z.out.2.1 Z.out.2.2.1 Z.out.2.2.2 rfl τ v0 nG xG γ2 J.out ⟨d.heap.size,0,none⟩ 1 1 [I (L.length:Int)] γ2 rfl (Xb _ a7) (Jx _) τ (by have:=u.out.2;unfold maxLen;omega) (by have:=u.out.2;omega) u.out.1 l.heap.size rfl ?_;intro g n r o b O ak;obtain ⟨M,ao,C,B⟩:=T.out g n r b o O;have a2:=Hd B;have a6:Hid (TB M w.heap.size x y k):=(V.out.grown b (V.out.not_row J.out)).grown C E;clear B o O)))
    go_wp2;go_roundg (3 - (2+1))
    case measure=>omega
    case rel=>exact ⟨2+1,γ,rfl,σ,a2.out,a6.out⟩
  ·obtain rfl:i=3:=γ;rw [Gi_three] at X;have A:=Hd X;have p0:=X.1.1;have fz:=X.1.2.2.2;have zp:=X.1.lt;have zb:=Hd X.2.2.2.2.1.2.2.2.2.2.2.2
   have af:Hid (some pb≠(Value.slice Q L.length f).ownBlock):=fun e=>by
    have:=(Zk X.2.1 pb e.symm).1;have:=X.2.2.2.2.1.2.1;omega
   obtain ⟨t0,t1,t2⟩:=hQ.tr;have zt:=hQ.lt;clear X hQ x0 x1 x2;go_wp2;go_region_law ((refine step_append_lies _ γ2 (.tmp 31) (.tmp 33) 40 γ2 base 44 ar (.agg #[I 0,I 0,I 0]) 3 24 Tryz.underlying40 Y.out.1 Y.out.2.1 Y.out.2.2.1 Y.out.2.2.2 rfl τ (.slice Q L.length f) L.length (flatV L) γ2 (Qh A.out.2.1 δ5) ⟨wr.heap.size,0,none⟩ 1 1 [I x,I y,I k] γ2 rfl (Jq wr x y k) (Zd x y k) τ Γ γ (Nt zb.out ν) (wr.heap.size+1) ν ?_;intro g n r o b O ak;have q0:At r pb 0 (.slice Q L.length f):=b.cell (by first | exact Qi (Ql p0) | exact Ql (Qi p0)) af.out;have f0:Fn r pb 0:=(Fo (a:=⟨pb,0,none⟩) (b.block pb ψ af.out)).trans (by simp [go_sem,fz,zp]);have ap:Hid (PP w0 (r.setCell ⟨pb,0,none⟩ (.slice (Az g) (L.length+1) n)) base pb t rk (.slice (Az g) (L.length+1) n) (L ++ [(x,y,k)]) (gix (L ++ [(x,y,k)]))):=A.out.pushed δ5 b o (O.imp id (fun e=>e.trans ν));clear o b O))
   all_goals
    go_wp2;go_end0
    exact ⟨rfl,_,_,ap.out⟩
theorem PP.made (w:World):PP (w.alloc (.cells #[SN,.map none,.map none] 65)) ((((w.alloc (.cells #[SN,.map none,.map none] 65)).alloc (.map #[] 0)).alloc (.map #[] 0)).alloc (.cells #[SN,.map (some (w.heap.size+1)),.map (some (w.heap.size+2))] 65)) (w.heap.size+4) (w.heap.size+3) (w.heap.size+1) (w.heap.size+2) SN [] (gix []):=by
 refine ⟨⟨?_, ?_, ?_, ?_⟩,by simpa [flatV] using World.ownsRow_nil _ _ _ _, ?_, ?_,⟨ν,γ,ν,γ,ν,γ,γ,ν⟩,Qc β2⟩
 ·simp [go_sem]
 ·simp [go_sem]
 ·simp [go_sem]
 ·simp [go_sem]
 ·refine ⟨[],0, ?_,good_nil,fun e _=>gix_nil e,fun e v h=>by simp [lk] at h,fun e b v v' _ h=>by simp [lk] at h⟩;have e1:=em_made (w.alloc (.cells #[SN,.map none,.map none] 65));have e2:=e1.grown (World.grownBy_alloc _ (.map #[] 0) none) ν;have a:=e2.grown (World.grownBy_alloc _ (.cells #[SN,.map (some (w.heap.size+1)),.map (some (w.heap.size+2))] 65) none) ν;simpa using a
 ·refine ⟨0, ?_,good_nil⟩;have e1:=em_made ((w.alloc (.cells #[SN,.map none,.map none] 65)).alloc (.map #[] 0));have e2:=e1.grown (World.grownBy_alloc _ (.cells #[SN,.map (some (w.heap.size+1)),.map (some (w.heap.size+2))] 65) none) ν;simpa using e2
theorem Qg (w:World) (b o:Nat) (v:Value):w.grownBy (w.setCell ⟨b,o,none⟩ v) (some b):=by
 have hb:=Below.setCell (w:=w) (p:=⟨b,o,none⟩) (Below.refl b w) (Nr _) v;exact ⟨hb.os,hb.tape,hb.output,hb.size,fun k _ a=>Below.heap_setCell _ _ _ k (fun e1=>a (by rw [e1]))⟩
theorem Jg {a b c:World} (h:a.grownBy b row) (k:b.grownBy c row):a.grownBy c row :=
 ⟨k.os.trans h.os,k.tape.trans h.tape,k.output.trans h.output,Nt h.size k.size,fun i hi d=>(k.block i (Nl hi h.size) d).trans (h.block i hi d)⟩
theorem PP.rebase {q:World} {p:Value} {G:E4→List Int} (h:PP q w base pb b d p L G) (i:Bl f q) (hg:w.grownBy w' (some r)) (hr:f.heap.size≤r) (h1:r≠pb) (h2:r≠b) (h3:r≠d) (h4:r<base):PP f w' base pb b d p L G:=by
 obtain ⟨F,m,⟨ls,B,b1,b2,b3,b4,A⟩,⟨c,H,a⟩,⟨a1,u,a3,a4,a5,x,y,z⟩,o⟩:=h;have l:=i.size
 have j:∀ {v:Value} {n:Nat} {e:TypeId} {s:Nat} {t:List Value},w.ownsRow base e s v n t→v.ownBlock=none∨v.ownBlock≠some r:=fun {v n e s t} E=>by
  cases hu:v.ownBlock with
  | none=>exact Or.inl rfl
  | some g =>
   refine Or.inr (fun e1=>?_);have:=(E.lt g hu).1;simp at e1;omega
 refine ⟨F.grown hg (fun e=>h1 (by simpa using e.symm)),m.kept hg (j m),⟨ls,B,b1.grown hg (fun e=>h2 (by simpa using e.symm)),b2,b3,fun e v C=>?_,A⟩,⟨c,H.grown hg (fun e=>h3 (by simpa using e.symm)),a⟩,⟨γ,u,γ,a4,γ,x,y,Nt z hg.size⟩, ?_⟩
 ·obtain ⟨d1,d2,d3⟩:=b4 e v C;exact ⟨d1.kept hg (j d1),d2,d3⟩
 ·exact (i.trans (o.mono l)).grown hg (Nt l o.size) (fun k D=>by simp at D;omega)
theorem of_any (W H b off C:Nat) (zs:List Int) (w:World) (hs:Steps w) (hr:Row w (Ad b off) zs) (O:1≤W∧W≤8) (N:1≤H∧H≤8) (hl:zs.length=W*H) (l:maskB zs=true) :
  Cl 46 #[I (W:Int),I (H:Int),.slice (Ad b off) zs.length C] w fun e w'=>∃ c d base pb ra rk,e=.returned (.agg #[.slice c (ty zs W H).length d,.map (some ra),.map (some rk)])∧PP w w' base pb ra rk (.slice c (ty zs W H).length d) (ty zs W H) (gix (ty zs W H)):=by
 have T:=Hd hr;have A:Hid (Steps (w.alloc (.cells #[SN,.map none,.map none] 65))):=hs.kept β1;have U:zs.length≤64:=by rw [hl];exact Nt (Nat.mul_le_mul O.2 N.2) τ
 have R:Hid (∀ z∈zs,0≤z∧z≤15):=by
  show ∀ z∈zs,0≤z∧z≤15
  simpa [maskB] using l
 have L:=Hd hl;clear hr l hl hs;obtain ⟨w1,w8⟩:=O;obtain ⟨h1,h8⟩:=N;have X:=@run_makeMap Tryz.prog;go_enter Tryz.func46,Tryz.ntmps46;go_wp2;go_loopg [15] H (fun g G t=>∃ (y:Nat) (c:Option Addr) (d:Nat),y≤H∧g=H - y∧G=I (y:Int)∧PP (w.alloc (.cells #[SN,.map none,.map none] 65)) t (w.heap.size+4) (w.heap.size+3) (w.heap.size+1) (w.heap.size+2) (.slice c (ty zs W y).length d) (ty zs W y) (gix (ty zs W y)))
 case atStart=>exact ⟨0,none,0,γ,rfl,rfl,by simpa [ty] using PP.made w⟩
 case round =>
  obtain ⟨y,c,d,hy,rfl,rfl,f⟩:=hrel;have a:=Hd f;clear f;by_cases hy1:y<H
  ·have iy:(y:Int)<(H:Int):=γ;go_wp2;go_loopg [19] W (fun g J t=>∃ (x:Nat) (c:Option Addr) (d:Nat),x≤W∧g=W - x∧J=I (x:Int)∧PP (w.alloc (.cells #[SN,.map none,.map none] 65)) t (w.heap.size+4) (w.heap.size+3) (w.heap.size+1) (w.heap.size+2) (.slice c (ty zs W y ++ tx zs W y x).length d) (ty zs W y ++ tx zs W y x) (gix (ty zs W y ++ tx zs W y x)))
   case atStart=>exact ⟨0,c,d,γ,rfl,rfl,by rw [tx_zero,List.append_nil];exact a.out⟩
   case round =>
    clear a;obtain ⟨x,c,d,hx,rfl,rfl,f⟩:=hrel;have a:=Hd f;clear f;by_cases hx1:x<W
    ·have ix:(x:Int)<(W:Int):=γ;go_wp2;go_loopg [22] 4 (fun g K t=>∃ (k:Nat) (c:Option Addr) (d:Nat),k≤4∧g=4 - k∧K=I (k:Int)∧PP (w.alloc (.cells #[SN,.map none,.map none] 65)) t (w.heap.size+4) (w.heap.size+3) (w.heap.size+1) (w.heap.size+2) (.slice c (ty zs W y ++ tx zs W y x ++ tk zs W x y k).length d) (ty zs W y ++ tx zs W y x ++ tk zs W x y k) (gix (ty zs W y ++ tx zs W y x ++ tk zs W x y k)))
     case atStart=>exact ⟨0,c,d,γ,rfl,rfl,by rw [tk_zero,List.append_nil];exact a.out⟩
     case round =>
      clear a;obtain ⟨k,c,d,hk,rfl,rfl,f⟩:=hrel;have a:=Hd f;clear f;by_cases hk1:k<4
      ·have ik:(k:Int)<4:=γ
       have F:y*W+W≤W*H:=by
        have:=Nat.mul_le_mul_right W (show y+1≤H by omega);rw [Nat.succ_mul,Nat.mul_comm H W] at this;exact this
       have l:y*W+x<zs.length:=by rw [L.out];omega
       have s:y*W≤64:=by have:=L.out;omega
       obtain ⟨b',Q,M,E⟩:=(T.out.kept (Qb β1 a.out.2.2.2.2.2)) (y*W+x) l;simp at M;obtain ⟨rfl,rfl⟩:=M;have n:=R.out _ (Lm l);have i:Hid (bitAt zs W x y k=bitB (zs[y*W+x]) k):=by show _=_;simp [bitAt,l]
       obtain ⟨z,P⟩:∃ z,z=zs[y*W+x]:=⟨_,rfl⟩;rw [← P] at E n i;have j:=bit_eq z (k:Int) n.1 n.2 γ γ;rw [Int.toNat_natCast] at j;have a2:(0:Int)≤(y:Int)*(W:Int):=by rw [← Int.natCast_mul];omega
       have a6:(y:Int)*(W:Int)≤64:=by rw [← Int.natCast_mul];omega
       have yx:(y:Int)*(W:Int)+(x:Int)=((y*W+x:Nat):Int):=ν;have Z:((y*W+x:Nat):Int)<(zs.length:Int):=γ;have Y:(0:Int)≤((y*W+x:Nat):Int):=γ;obtain ⟨m,h⟩:∃ m,m=y*W+x:=⟨_,rfl⟩;rw [← h] at E yx Z Y;have a7:=bk E;clear P l F s h
       cases hbit:bitB z (k:Int)
       ·rw [hbit] at j;go_wp2;go_roundg (4 - (k+1))
        case measure=>omega
        case rel=>exact ⟨k+1,c,d,γ,rfl,σ,by rw [tk_no (i.out.trans hbit)];exact a.out⟩
       ·rw [hbit] at j
        have q:(ty zs W y ++ tx zs W y x ++ tk zs W x y k).length≤300:=by
         have q1:=Vi zs W y w8;have q2:=tx_len zs W y x;have q3:=tk_len zs W x y k;simp only [List.length_append];omega
        have r:triB (x:Int) (y:Int) (k:Int)=true:=by simp [triB];omega
        go_wp2_with (go_at_call 90;refine (add_any (w.alloc (.cells #[SN,.map none,.map none] 65)) (x:Int) (y:Int) (k:Int) _ _ _ _ d c (ty zs W y ++ tx zs W y x ++ tk zs W x y k) _ r A.out q a.out).mono ?_;rintro e w2 ⟨rfl,B,D,o⟩;have u:=Hd o;clear o)
        go_roundg (4 - (k+1))
        case measure=>omega
        case rel =>
         have V:ty zs W y ++ tx zs W y x ++ tk zs W x y (k+1)=(ty zs W y ++ tx zs W y x ++ tk zs W x y k) ++ [((x:Int),(y:Int),(k:Int))]:=by rw [tk_yes (i.out.trans hbit),← List.append_assoc]
         refine ⟨k+1,B,D,γ,rfl,σ, ?_⟩;rw [V,List.length_append,List.length_singleton];exact u.out
      ·go_wp2;go_roundg (W - (x+1))
       case measure=>omega
       case rel =>
        obtain rfl:k=4:=γ;exact ⟨x+1,c,d,γ,rfl,σ,by rw [tx_succ,← List.append_assoc];exact a.out⟩
    ·have ix:¬ (x:Int)<(W:Int):=γ;go_wp2;go_roundg (H - (y+1))
     case measure=>omega
     case rel =>
      obtain rfl:x=W:=γ;exact ⟨y+1,c,d,γ,rfl,σ,by rw [ty_succ];exact a.out⟩
  ·have iy:¬ (y:Int)<(H:Int):=γ;obtain rfl:y=H:=γ;obtain ⟨q0,q1,q2,_⟩:=a.out.1;have c0:=(a.out.2.2.2.2.2.cell (p:=⟨w.heap.size,0,none⟩) ν).trans (by simp [go_sem]:(w.alloc (.cells #[SN,.map none,.map none] 65)).cell? ⟨w.heap.size,0,none⟩=some SN);have c1:=(a.out.2.2.2.2.2.cell (p:=⟨w.heap.size,1,none⟩) ν).trans (by simp [go_sem]:(w.alloc (.cells #[SN,.map none,.map none] 65)).cell? ⟨w.heap.size,1,none⟩=some (.map none));have c2:=(a.out.2.2.2.2.2.cell (p:=⟨w.heap.size,2,none⟩) ν).trans (by simp [go_sem]:(w.alloc (.cells #[SN,.map none,.map none] 65)).cell? ⟨w.heap.size,2,none⟩=some (.map none));have f0:=(a.out.2.2.2.2.2.frozen (p:=⟨w.heap.size,0,none⟩) ν).trans (by simp [go_sem]:(w.alloc (.cells #[SN,.map none,.map none] 65)).frozen? ⟨w.heap.size,0,none⟩=false);have f1:=(a.out.2.2.2.2.2.frozen (p:=⟨w.heap.size,1,none⟩) ν).trans (by simp [go_sem]:(w.alloc (.cells #[SN,.map none,.map none] 65)).frozen? ⟨w.heap.size,1,none⟩=false);have f2:=(a.out.2.2.2.2.2.frozen (p:=⟨w.heap.size,2,none⟩) ν).trans (by simp [go_sem]:(w.alloc (.cells #[SN,.map none,.map none] 65)).frozen? ⟨w.heap.size,2,none⟩=false);go_wp2;refine bodyPost_ret (v:=.agg #[.slice c (ty zs W y).length d,.map (some (w.heap.size+1)),.map (some (w.heap.size+2))]) ?_ rfl ⟨_,_,_,_,_,_,rfl,a.out.rebase β1 (Jg (Jg (Qg _ _ 0 _) (Qg _ _ 1 _)) (Qg _ _ 2 _)) (Nr _) γ γ γ γ⟩;simp [results,Tryz.results46,go_sem,c0,c1,c2]
def jE (i:Nat) (e:E4) (G:List Int):List (E4×Int):=(G.filter fun j=>decide (j≠(i:Int))).map fun j=>(e,j)
theorem jE_yes {G:List Int} {m:Nat} (a:m<G.length) (h:G[m]≠(i:Int)):jE i e (G.take (m+1))=jE i e (G.take m) ++ [(e,G[m])]:=by
 unfold jE;rw [List.take_succ_eq_append_getElem a,List.filter_append,List.map_append];simp [h]
theorem jE_no {G:List Int} {m:Nat} (a:m<G.length) (h:G[m]=(i:Int)):jE i e (G.take (m+1))=jE i e (G.take m):=by
 unfold jE;rw [List.take_succ_eq_append_getElem a,List.filter_append,List.map_append];simp [h]
theorem jE_len (i:Nat) (e:E4) (G:List Int):(jE i e G).length≤G.length:=by
 unfold jE;rw [List.length_map];exact List.length_filter_le _ _
def jl (L:List T3) (t:T3) (i n:Nat):List (E4×Int):=(List.range n).flatMap fun k=>jE i (edg t k) (gix L (edg t k))
theorem jl_zero (L:List T3) (t:T3) (i:Nat):jl L t i 0=[]:=by simp [jl]
theorem jl_succ (L:List T3) (t:T3) (i n:Nat):jl L t i (n+1)=jl L t i n ++ jE i (edg t n) (gix L (edg t n)):=by simp [jl,List.range_succ,List.flatMap_append]
theorem Uv (L:List T3) (t:T3) (i n:Nat):(jl L t i n).length≤n*L.length:=by
 induction n with
 | zero=>simp [jl]
 | succ n ih =>
  rw [jl_succ,List.length_append,Nat.succ_mul];have:=jE_len i (edg t n) (gix L (edg t n));have:=gix_len L (edg t n);omega
theorem Xw {j:Int}:(e,j)∈jl L t i n↔∃ k,k<n∧e=edg t k∧∃ m:Nat,∃ h:m<L.length,j=(m:Int)∧m≠i∧hasT L[m] e=true:=by
 simp only [jl,jE,List.mem_flatMap,List.mem_range,List.mem_map,List.mem_filter,decide_eq_true_eq,gix_mem];constructor
 ·rintro ⟨k,b,a,⟨⟨m,c,rfl,f⟩,d⟩,g⟩;simp only [Prod.mk.injEq] at g;obtain ⟨rfl,rfl⟩:=g;exact ⟨k,b,rfl,m,c,rfl,γ,f⟩
 ·rintro ⟨k,b,rfl,m,c,rfl,d,f⟩;exact ⟨k,b,(m:Int),⟨⟨m,c,rfl,f⟩,γ⟩,rfl⟩
def flatJ (l:List (E4×Int)):List Value:=l.flatMap fun t=>[I t.1.1,I t.1.2.1,I t.1.2.2.1,I t.1.2.2.2,I t.2]
theorem Uz (l m:List (E4×Int)):flatJ (l ++ m)=flatJ l ++ flatJ m:=by simp [flatJ,List.flatMap_append]
theorem Zr:∀ (l:List (E4×Int)) (i:Nat) (h:i<l.length),(flatJ l)[i*5]?=some (I l[i].1.1)∧(flatJ l)[i*5+1]?=some (I l[i].1.2.1)∧(flatJ l)[i*5+2]?=some (I l[i].1.2.2.1)∧(flatJ l)[i*5+3]?=some (I l[i].1.2.2.2)∧(flatJ l)[i*5+4]?=some (I l[i].2)
 | [],i,h=>by simp at h
 | t :: l,0,h=>by simp [flatJ]
 | t :: l,i+1,h=>by
  have b:=Zr l i (by simpa using h);have e:flatJ (t :: l)=[I t.1.1,I t.1.2.1,I t.1.2.2.1,I t.1.2.2.2,I t.2] ++ flatJ l:=by simp [flatJ]
  have q:∀ o,(flatJ (t :: l))[(i+1)*5+o]?=(flatJ l)[i*5+o]?:=fun o=>by
   rw [e,List.getElem?_append_right ψ];congr 1
   simp;omega
  have a:=q 0;simp only [Nat.add_zero] at a;simp only [List.getElem_cons_succ];rw [a,q 1,q 2,q 3,q 4];exact b
def JRow (w:World) (a:Option Addr) (l:List (E4×Int)):Prop := ∀ i (h:i<l.length),∃ g,a=Az g∧At w g (i*5) (I l[i].1.1)∧At w g (i*5+1) (I l[i].1.2.1)∧At w g (i*5+2) (I l[i].1.2.2.1)∧At w g (i*5+3) (I l[i].1.2.2.2)∧At w g (i*5+4) (I l[i].2)
theorem JRow.kept {l:List (E4×Int)} (h:JRow w a l) (hb:Bl w w'):JRow w' a l:=fun i hi=>by
 obtain ⟨g,e,h0,h1,h2,h3,h4⟩:=h i hi;exact ⟨g,e,Qa hb h0,Qa hb h1,Qa hb h2,Qa hb h3,Qa hb h4⟩
theorem own_joints {l:List (E4×Int)} (h:w.ownsRow base 79 5 v l.length (flatJ l)):∃ a b,v=.slice a l.length b∧JRow w a l:=by
 rcases h.2 with ⟨rfl,h0⟩ | ⟨g,b,c,rfl,_⟩
 ·exact ⟨none,0,by rw [h0],fun i hi=>by omega⟩
 ·refine ⟨Az g,b,rfl,fun i hi=>⟨g,rfl, ?_⟩⟩;have f:=Zr l i hi;exact ⟨(h.cellAt _ γ).trans f.1,(h.cellAt _ γ).trans f.2.1,(h.cellAt _ γ).trans f.2.2.1,(h.cellAt _ γ).trans f.2.2.2.1,(h.cellAt _ γ).trans f.2.2.2.2⟩
def JW (w:World) (base:Nat) (a:Option Addr) (l:List (E4×Int)):Prop:=JRow w a l∧∀ g,a=Az g→base≤g∧∃ cur,w.heap[g]?=some (.cells cur 79)
theorem own_jw {l:List (E4×Int)} (h:w.ownsRow base 79 5 v l.length (flatJ l)):∃ a c,v=.slice a l.length c∧JW w base a l:=by
 obtain ⟨a,c,e,hr⟩:=own_joints h;refine ⟨a,c,e,hr,fun g hg=>?_⟩;subst e hg;rcases h.2 with ⟨e1,_⟩ | ⟨b,f,d,e1,hb,i,_⟩
 ·simp at e1
 ·simp only [Value.slice.injEq,Option.some.injEq,Addr.mk.injEq] at e1;obtain ⟨⟨rfl,_⟩,_⟩:=e1;exact ⟨hb,d,i⟩
theorem JW.grown {l:List (E4×Int)} (h:JW w base a l) (hg:w.grownBy w' row) (c:∀ g,row=some g→a≠Az g):JW w' base a l:=by
 refine ⟨fun i hi=>?_,fun g f=>?_⟩
 ·obtain ⟨g,e,h0,h1,h2,h3,h4⟩:=h.1 i hi;have b:some g≠row:=fun e1=>c g e1.symm e;exact ⟨g,e,hg.cell h0 b,hg.cell h1 b,hg.cell h2 b,hg.cell h3 b,hg.cell h4 b⟩
 ·obtain ⟨h1,d,h2⟩:=h.2 g f;exact ⟨h1,d,(hg.block g (Array.getElem?_eq_some_iff.1 h2).1 (fun e1=>c g e1.symm f)).trans h2⟩
theorem JW.kept {l:List (E4×Int)} (h:JW w base a l) (hb:Bl w w'):JW w' base a l:=h.grown (Qv hb) ν
theorem JW.mono {l:List (E4×Int)} (h:JW w base a l) (hb:b≤base):JW w b a l:=⟨h.1,fun g c=>⟨Nt hb (h.2 g c).1,(h.2 g c).2⟩⟩
theorem JW.not_row {b2:Nat} {l:List (E4×Int)} {k:List Value} (h:JW w base a l) (j:w.ownsRow b2 3 1 v n k):∀ g,v.ownBlock=some g→a≠Az g:=fun g hg i=>by
 obtain ⟨_,f,h2⟩:=h.2 g i;rcases j.2 with ⟨rfl,_⟩ | ⟨b,e,d,rfl,_,c,_⟩
 ·simp [Value.ownBlock] at hg
 ·obtain rfl:b=g:=by simpa [Value.ownBlock] using hg
  rw [h2] at c;simp at c
def EB (w:World) (B:Nat) (p q r s:Int):Prop:=w.heap[B]?=some (.cells #[I p,I q,I r,I s] 77)
theorem EB.cells {r:Int} (h:EB w B p q r s):At w B 0 (I p)∧At w B 1 (I q)∧At w B 2 (I r)∧At w B 3 (I s):=by
 unfold EB at h;simp [World.cell?,h]
theorem EB.lt {r:Int} (h:EB w B p q r s):B<w.heap.size:=(Array.getElem?_eq_some_iff.1 h).1
theorem EB.grown {r:Int} (h:EB w B p q r s) (hg:w.grownBy w' row) (a:some B≠row):EB w' B p q r s:=(hg.block B h.lt a).trans h
theorem EB.kept {r:Int} (h:EB w B p q r s) (hb:Bl w w'):EB w' B p q r s:=h.grown (Qv hb) ν
theorem EB.not_row {r:Int} {f:List Value} (h:EB w B p q r s) (d:w.ownsRow base 79 5 v n f):some B≠v.ownBlock:=by
 rcases d.2 with ⟨rfl,_⟩ | ⟨g,b,c,rfl,_,a,_⟩
 ·simp [Value.ownBlock]
 ·intro e;obtain rfl:B=g:=by simpa [Value.ownBlock] using e
  unfold EB at h;rw [h] at a;simp at a
def PB (w:World) (B:Nat) (ad:Option Addr) (n cc ra rk:Nat):Prop:=At w B 0 (.slice ad n cc)∧At w B 1 (.map (some ra))∧At w B 2 (.map (some rk))
theorem PB.kept (h:PB w B a n b c d) (hb:Bl w w'):PB w' B a n b c d:=⟨Qa hb h.1,Qa hb h.2.1,Qa hb h.2.2⟩
def JM (w wx:World) (ad:Option Addr) (n cc ra rk:Nat) (J:List (E4×Int)) (v:Value):Prop :=
 wx.ownsRow (w.heap.size+1) 79 5 v J.length (flatJ J)∧Bl w wx∧PB wx w.heap.size ad n cc ra rk∧w.heap.size+1≤wx.heap.size
theorem JM.kept {e:World} {J:List (E4×Int)} (h:JM w e a n b c d J v) (hb:Bl e w'):JM w w' a n b c d J v :=
 ⟨Qh h.1 hb,Qb h.2.1 hb,h.2.2.1.kept hb,Nt h.2.2.2 hb.size⟩
theorem JM.more {m d:World} {g:Option Addr} {l:Nat} {J:List (E4×Int)} {v':Value} {j:Int} (h:JM w m g n i k l J v) (hb:Bl m d) (hg:d.grownBy f v.ownBlock) (c:f.ownsRow (w.heap.size+1) 79 5 v' (J.length+1) (flatJ J ++ [I e.1,I e.2.1,I e.2.2.1,I e.2.2.2,I j])):JM w f g n i k l (J ++ [(e,j)]) v':=by
 have b:=h.kept hb;have a:=Below.grown (Below.refl (w.heap.size+1) d) hg b.2.2.2 (Qn b.1);have q:=a.size;refine ⟨?_,b.2.1.trans (a.mono γ),⟨?_, ?_, ?_⟩,by have:=b.2.2.2;omega⟩
 ·rw [Uz,List.length_append];simpa [flatJ] using c
 ·exact (a.cell (p:=⟨w.heap.size,0,none⟩) θ).trans b.2.2.1.1
 ·exact (a.cell (p:=⟨w.heap.size,1,none⟩) θ).trans b.2.2.1.2.1
 ·exact (a.cell (p:=⟨w.heap.size,2,none⟩) θ).trans b.2.2.1.2.2
theorem infJ:(Tryz.prog.info? 79).map (fun i=>(i.zero,i.size,i.bytes))=some (some (.agg #[I 0,I 0,I 0,I 0,I 0]),5,40):=μ
theorem Xr (w:World) (T:TypeId) (a b c d e:Int):∀ j u,([I a,I b,I c,I d,I e])[j]?=some u→(w.alloc (.cells #[I a,I b,I c,I d,I e] T)).cell? ((⟨w.heap.size,0,none⟩:Addr).add j)=some u:=by
 intro j u f;match j,f with
 | 0,f=>simp at f;subst f;simp [go_sem,Addr.add]
 | 1,f=>simp at f;subst f;simp [go_sem,Addr.add]
 | 2,f=>simp at f;subst f;simp [go_sem,Addr.add]
 | 3,f=>simp at f;subst f;simp [go_sem,Addr.add]
 | 4,f=>simp at f;subst f;simp [go_sem,Addr.add]
theorem Xm (w:World) (t q A i:Nat) (ad:Option Addr) (L:List T3) (x y k:Int) (hs:Steps w) (s:PA w ad q L) (hi:i<L.length) (ht:(x,y,k)=L[i]) (hL:L.length≤300) (aa:(0≤x∧x≤8)∧(0≤y∧y≤8)∧(0≤k∧k≤3)) :
  Cl 89 #[.agg #[.slice ad L.length t,.map (some q),.map (some A)],I (i:Int)] w fun e w'=>∃ v,e=.returned v∧w'.ownsRow (w.heap.size+1) 79 5 v (jl L (x,y,k) i 3).length (flatJ (jl L (x,y,k) i 3))∧Bl w w':=by
 have a8:=Hd hs;have a7:=Hd s;obtain ⟨i5,K,N,O,P⟩:=info_parts infJ;have R:=H4 K N O P;obtain ⟨Q,rfl,t0,t1,t2⟩:=s.1 i hi;rw [← ht] at t0 t1 t2;dsimp only at t0 t1 t2;have zt:=Bt t0;have p:triB x y k=true:=by simp [triB];omega
 have D:=Hd p;have j1:(i:Int)<(L.length:Int):=γ;have j0:(0:Int)≤(i:Int):=γ;clear hs s K N O P p aa ht;go_enter Tryz.func89,Tryz.ntmps89;go_wp2_with (go_at_call 136;refine (Zj _ _ _ _ D.out (a8.out.kept Δ)).mono ?_;rintro e wq ⟨rfl,hb⟩;have F:JM w wq (Az Q) L.length t q A [] SN:=⟨by simpa [flatJ] using World.ownsRow_nil _ _ _ _,Qb β1 hb,PB.kept (by simp [PB,go_sem]) hb,by have:=hb.size;simp at this;omega⟩;have T:=Hd F;clear hb F t0 t1 t2 zt)
 go_loopg [5,16] 3 (fun gk s5 af W=>∃ e:Nat,e≤3∧gk=3 - e∧af=I (e:Int)∧JM w W (Az Q) L.length t q A (jl L (x,y,k) i e) s5)
 case atStart=>exact ⟨0,γ,rfl,rfl,by rw [jl_zero];exact T.out⟩
 case round =>
  clear T;obtain ⟨e,he,rfl,rfl,z⟩:=hrel;obtain ⟨vA,ab⟩:∃ u,u=u5:=⟨_,rfl⟩;subst ab;have h:=Hd z;obtain ⟨p0,p1,p2⟩:=z.2.2.1;have zp:=Bt p0;have ah:w.heap.size<wr.heap.size+1:=γ;clear z;by_cases he1:e<3
  ·have ie:(e:Int)<3:=γ;obtain ⟨a,c,d,f,hq⟩:∃ a c d f,edg (x,y,k) e=(a,c,d,f):=⟨_,_,_,_,rfl⟩
   have hx:(Instr.index 213 (.agg #[I (ue0 x y k),I (ue1 x y k),I (ue2 x y k),I (ue3 x y k),I (ue4 x y k),I (ue5 x y k),I (ue6 x y k),I (ue7 x y k),I (ue8 x y k),I (ue9 x y k),I (ue10 x y k),I (ue11 x y k)]) (I (e:Int))).run Tryz.prog wr=.ok (.agg #[I a,I c,I d,I f]) wr:=by
    obtain ⟨a0,a1,a2⟩:=idx32 (ue0 x y k) (ue1 x y k) (ue2 x y k) (ue3 x y k) (ue4 x y k) (ue5 x y k) (ue6 x y k) (ue7 x y k) (ue8 x y k) (ue9 x y k) (ue10 x y k) (ue11 x y k) wr;have h3:e=0∨e=1∨e=2:=γ;rcases h3 with rfl | rfl | rfl
    ·simp only [edg,if_true,Prod.mk.injEq] at hq;obtain ⟨rfl,rfl,rfl,rfl⟩:=hq;exact a0
    ·simp only [edg,if_true,if_false,Nat.one_ne_zero,Prod.mk.injEq] at hq;obtain ⟨rfl,rfl,rfl,rfl⟩:=hq;exact a1
    ·simp only [edg,if_false,show ¬ (2:Nat)=0 by omega,show ¬ (2:Nat)=1 by omega,Prod.mk.injEq] at hq;obtain ⟨rfl,rfl,rfl,rfl⟩:=hq;exact a2
   have T:=Hd hq;clear hq;obtain ⟨ga,gc,J,n⟩:=a7.out.2 (a,c,d,f);have B:=Hd J
   have r:Hid (EB (wr.alloc (.cells #[I a,I c,I d,I f] 77)) wr.heap.size a c d f):=by
    have:EB (wr.alloc (.cells #[I a,I c,I d,I f] 77)) wr.heap.size a c d f:=heap_alloc_new wr _;exact this
   have ae:(Instr.lookup 62 (.map (some q)) (.agg #[I a,I c,I d,I f]) false).run Tryz.prog (wr.alloc (.cells #[I a,I c,I d,I f] 77))=.ok (.slice ga (gix L (a,c,d,f)).length gc) (wr.alloc (.cells #[I a,I c,I d,I f] 77)):=n _ (Qc h.out.2.1);have C:Hid (JM w (wr.alloc (.cells #[I a,I c,I d,I f] 77)) (Az Q) L.length t q A (jl L (x,y,k) i e) vA):=h.out.kept β1;obtain ⟨U,H⟩:∃ b,b=wr.heap.size:=⟨_,rfl⟩;clear J n;go_wp2;obtain ⟨G,E⟩:∃ G,G=gix L (a,c,d,f):=⟨_,rfl⟩;have HG:=Hd E;rw [← E] at B;have aj:G.length≤300:=by rw [E];exact Nt (gix_len _ _) hL
   rw [← E];rw [← H] at r ⊢;clear E ae hx H;go_loopg [5,24] G.length (fun gk s5 ag W=>∃ m:Nat,m≤G.length∧gk=G.length - m∧ag=I (m:Int)∧JM w W (Az Q) L.length t q A (jl L (x,y,k) i e ++ jE i (a,c,d,f) (G.take m)) s5∧EB W U a c d f)
   case atStart=>exact ⟨0,γ,rfl,rfl,by simpa [jE] using C.out,r.out⟩
   case round =>
    clear h C r p0 p1 p2 zp ah;obtain ⟨m,hm,rfl,rfl,z,V⟩:=hrel;obtain ⟨vB,ac⟩:∃ u,u=u5:=⟨_,rfl⟩;subst ac;have h:=Hd z;have X:=Hd V;obtain ⟨d0,d1,d2,d3⟩:=V.cells;have zd:U<wr.heap.size:=V.lt;clear z V;by_cases hm1:m<G.length
    ·have im:(m:Int)<(G.length:Int):=γ;have ak:(0:Int)≤(m:Int):=γ;obtain ⟨gb,go,rfl,l⟩:=(B.out.kept h.out.2.1) m hm1;have am:=Bt l;obtain ⟨j,hj⟩:∃ j,j=G[m]:=⟨_,rfl⟩;rw [← hj] at l;have Z:=Hd hj;clear hj;by_cases hne:j=(i:Int)
     ·subst hne;go_wp2;go_roundg (G.length - (m+1))
      case measure=>omega
      case rel=>exact ⟨m+1,γ,rfl,σ,by rw [jE_no hm1 Z.out.symm];exact h.out,X.out⟩
     ·have ai:(jl L (x,y,k) i e ++ jE i (a,c,d,f) (G.take m)).length+1≤2000:=by
       have a1:=Uv L (x,y,k) i e;have a2:=jE_len i (a,c,d,f) (G.take m);have a3:e*L.length≤3*300:=Nat.mul_le_mul he hL;rw [List.length_append];simp only [List.length_take] at a2;omega
      go_wp2_with (at_builtin;refine wpList_append_own _ rfl (.tmp 31) (.tmp 35) 157 rfl (w.heap.size+1) 79 i5 (.agg #[I 0,I 0,I 0,I 0,I 0]) 5 40 Tryz.underlying157 R.out.1 R.out.2.1 R.out.2.2.1 R.out.2.2.2 rfl τ vB (jl L (x,y,k) i e ++ jE i (a,c,d,f) (G.take m)).length (flatJ (jl L (x,y,k) i e ++ jE i (a,c,d,f) (G.take m))) rfl ?own ⟨wr.heap.size,0,none⟩ 1 1 [I a,I c,I d,I f,I j] rfl rfl ?c1 ?c2 ?b1 ?b2 ?b3 ?grow)
      case own=>exact Qh h.out.1 β1
      case c1=>exact Xr _ _ _ _ _ _ _
      case c2 =>
       intro u hu;simp at hu;rcases hu with rfl | rfl | rfl | rfl | rfl <;> rfl
      case b1 =>
       unfold maxLen;omega
      case b2=>omega
      case b3 =>
       have:=h.out.2.2.2;simp;omega
      case grow =>
       intro v' w3 o g M;rw [← List.length_append] at o
       have a6:Hid (JM w w3 (Az Q) L.length t q A (jl L (x,y,k) i e ++ jE i (a,c,d,f) (G.take (m+1))) v'):=by
        have h1:=h.out.more (e:=(a,c,d,f)) (j:=j) β1 g o;rw [jE_yes hm1 (by rw [← Z.out];exact hne),← Z.out,← List.append_assoc];exact h1
       have Y:Hid (EB w3 U a c d f):=by
        have h1:EB w3 U a c d f:=(X.out.kept β1).grown g (X.out.not_row h.out.1);exact h1
       clear o g M;go_wp2;go_roundg (G.length - (m+1))
       case measure=>omega
       case rel=>exact ⟨m+1,γ,rfl,σ,a6.out,Y.out⟩
    ·have im:¬ (m:Int)<(G.length:Int):=γ;obtain rfl:m=G.length:=γ;go_wp2;go_roundg (3 - (e+1))
     case measure=>omega
     case rel =>
      refine ⟨e+1,γ,rfl,σ, ?_⟩;have h1:=h.out;rw [List.take_length,HG.out] at h1;rw [jl_succ,T.out];exact h1
  ·have ie:¬ (e:Int)<3:=γ;obtain rfl:e=3:=γ;go_wp2;go_ret;exact ⟨vA,rfl,h.out.1,h.out.2.1⟩
def rowN (R:List Nat):List Value:=R.map fun (i:Nat)=>I (i:Int)
def SpM (wE wx w:World) (g:Nat) (ad:Option Addr) (cc ra rk:Nat) (L:List T3) (part:Nat→Int) (num:Int) (R:List Nat) (v:Value):Prop :=
 ZRow wx g L.length (lab part num R)∧wx.ownsRow (w.heap.size+1) 3 1 v R.length (rowN R)∧Bl wE wx∧(At wx w.heap.size 0 (.slice ad L.length cc)∧At wx w.heap.size 1 (.map (some ra))∧At wx w.heap.size 2 (.map (some rk)))∧w.heap.size+1≤wx.heap.size
theorem SpM.kept {e:World} {R:List Nat} (h:SpM e f w g a b c d L part num R v) (hb:Bl f w'):SpM e w' w g a b c d L part num R v :=
 ⟨h.1.kept hb,Qh h.2.1 hb,Qb h.2.2.1 hb,⟨Qa hb h.2.2.2.1.1,Qa hb h.2.2.2.1.2.1,Qa hb h.2.2.2.1.2.2⟩,Nt h.2.2.2.2 hb.size⟩
theorem rowN_at (R:List Nat) (i:Nat) (h:i<R.length):(rowN R)[i]?=some (I ((R[i]:Nat):Int)):=by simp [rowN,h]
theorem SpM.slice {m d:World} {f l:Nat} {e:Option Addr} {R:List Nat} (h:SpM m d w g e f k l L part num R v) (n:0<R.length):∃ b a,v=.slice (some ⟨b,0,none⟩) R.length a∧w.heap.size+1≤b∧∀ i (hi:i<R.length),d.cell? ⟨b,i,none⟩=some (I ((R[i]:Nat):Int)):=by
 rcases h.2.1.2 with ⟨_,h0⟩ | ⟨b,a,j,c,h2,h3⟩
 ·omega
 ·refine ⟨b,a,c,h2,fun i hi=>?_⟩;subst c;have:=h.2.1.cellAt i γ;(try simp only [I]);rw [this,rowN_at R i hi]
theorem SpM.more {c y d:World} {t x:Nat} {p:Option Addr} {R:List Nat} {v':Value} (h:SpM f c w g p r t x L part num R v) (z:g<w.heap.size) (l:f.heap.size≤g) (A:j<L.length)
  (hb:Below (c.setCell ⟨g,j,none⟩ (I num)).heap.size (c.setCell ⟨g,j,none⟩ (I num)) y) (hg:y.grownBy d v.ownBlock) (b:d.ownsRow (w.heap.size+1) 3 1 v' (R.length+1) (rowN R ++ [I (j:Int)])) :
  SpM f d w g p r t x L part num (R ++ [j]) v':=by
 obtain ⟨h1,h2,h3,⟨s,C,D⟩,h5⟩:=h;have a:∀ k,v.ownBlock=some k→w.heap.size+1≤k:=fun k n=>(h2.lt k n).1
 have m:some g≠v.ownBlock:=fun e=>by
  have:=a g e.symm;omega
 have i:some w.heap.size≠v.ownBlock:=fun e=>by
  have:=a _ e.symm;omega
 have z1:=((h1.set num A).kept hb).grown hg m
 have q:∀ {o:Nat} {u:Value},At c w.heap.size o u→At d w.heap.size o u:=fun {o u} B=>by
  refine hg.cell (Qa hb ?_) i;rw [Co _ _ _ _ (by simp <;> omega)];exact B
 refine ⟨?_, ?_, ?_,⟨q s,q C,q D⟩, ?_⟩
 ·rw [lab_found];exact z1
 ·rw [List.length_append,List.length_singleton];have:rowN (R ++ [j])=rowN R ++ [I (j:Int)]:=by simp [rowN]
  rw [this];exact b
 ·have k1:Bl f (c.setCell ⟨g,j,none⟩ (I num)):=h3.setCell l _;have k2:=k1.trans (hb.mono k1.size);have:=h3.size
  exact k2.grown hg k2.size (fun k n=>by
   have:=a k n;have:=bk s;omega)
 ·have E:=hb.size;have F:=hg.size;rw [World.size_setCell] at E;omega
theorem owns_one (w:World) (base:Nat) (v:Value) (h:base≤w.heap.size):(w.alloc (.cells #[v] 3)).ownsRow base 3 1 (.slice (Az w.heap.size) 1 1) 1 [v] :=
 ⟨ν,.inr ⟨w.heap.size,1,#[v],rfl,h,heap_alloc_new w _,Nr _,Γ,ν,ν⟩⟩
theorem DoneT.joints {R:List Nat} (hi:i∈R) (h:∀ m (a:m<(jl L t i 3).length),∀ j:Nat,(jl L t i 3)[m].2=(j:Int)→cr (jl L t i 3)[m].1=true→j∈R∨0≤part j):DoneT cr L part R t 3:=fun k d b j c f=>by
 by_cases e:j=i
 ·subst e;exact Or.inl hi
 ·have a:(edg t k,(j:Int))∈jl L t i 3:=Xw.2 ⟨k,d,rfl,j,c,rfl,e,f⟩;obtain ⟨m,a,e1⟩:=List.getElem_of_mem a;exact h m a j (by rw [e1]) (by rw [e1];exact b)
theorem spread_g (U w:World) (g V T rk f:Nat) (Q:Option Addr) (L:List T3) (part:Nat→Int) (num:Int) (F:Nat) (cs:Array Value) (ci:∀ (args:Array Value) (w:World),(callFunc F args).run Tryz.prog w=.ok (.enter F args) w) (cr:E4→Bool) (hs:Steps U) (b6:PA U Q T L) (hB:Bl U w) (b8:U.heap.size≤g) (hZ:ZRow w g L.length part) (hf:f<L.length) (hp:part f<0) (bh:0≤num∧num≤1000) (hL:L.length≤300) (bg:L.Nodup) (b7:∀ t∈L,(0≤t.1∧t.1≤8)∧(0≤t.2.1∧t.2.1≤8)∧(0≤t.2.2∧t.2.2≤3))
  (b5:∀ (i j:Nat) (hi:i<L.length) (hj:j<L.length) (D E G H:Int) (a:World),j≠i→hasT L[i] (D,E,G,H)=true→hasT L[j] (D,E,G,H)=true→Bl U a→Cl F (#[I (i:Int),.agg #[I D,I E,I G,I H,I (j:Int)]] ++ cs) a fun e w'=>e=.returned (.bool (cr (D,E,G,H)))∧Bl a w') :
  Cl 43 #[.agg #[.slice Q L.length V,.map (some T),.map (some rk)],.slice (Az g) L.length L.length,I (f:Int),I num,.func (.func F) #[] cs] w fun e w'=>e=.returned (.tuple #[])∧∃ R,Sp cr L part f R∧ZRow w' g L.length (lab part num R)∧(∀ i∈R,∀ h:i<L.length,DoneT cr L part R L[i] 3)∧Bl U w':=by
 have aq:=Hd b5;have bm:Hid (∀ (a:World) (i:Nat) (hi:i<L.length),Bl U a→Cl 89 #[.agg #[.slice Q L.length V,.map (some T),.map (some rk)],I (i:Int)] a fun e w'=>∃ v,e=.returned v∧w'.ownsRow (a.heap.size+1) 79 5 v (jl L L[i] i 3).length (flatJ (jl L L[i] i 3))∧Bl a w'):=fun a i hi l=>Xm a V T rk i Q L L[i].1 L[i].2.1 L[i].2.2 (hs.kept l) (b6.kept l) hi rfl hL (b7 _ (Lm hi));have bo:=Hd bg;obtain ⟨z0,zf⟩:=hZ f hf;have bt:=Bt z0;have HZ:=H2 hZ hB
 have ax:Hid (Sp cr L part f [f]):=⟨ν,ν,fun i hi=>by
  simp at hi;subst hi;exact ⟨hf,hp,hf,.here (Lm hf)⟩⟩
 obtain ⟨i3,b9,ag,ah,ai⟩:=info_parts inf3;have HI:=H4 b9 ag ah ai;obtain ⟨n0,n1⟩:=bh;have cu:(f:Int)<(L.length:Int):=γ;have ct:(0:Int)≤(f:Int):=γ;clear hs b6 b7 bg hZ hB b9 ag ah ai hp b5;go_enter Tryz.func43,Tryz.ntmps43;go_wp2;go_loopg [10,11] L.length (fun gk an c8 wx=>∃ (n:Nat) (R:List Nat),n≤R.length∧L.length - n≤gk∧c8=I (n:Int)∧Sp cr L part f R∧(∀ m (hm:m<R.length),m<n→∀ h:R[m]<L.length,DoneT cr L part R L[R[m]] 3)∧SpM U wx w g Q V T rk L part num R an)
 case atStart =>
  refine ⟨0,[f],ν,γ,rfl,ax.out,fun m _ h=>by omega, ?_⟩;refine ⟨?_, ?_, ?_,⟨?_, ?_, ?_⟩, ?_⟩
  ·have hz:=(HZ.out.1.set num hf).kept (Qc (o:=.cells #[I (f:Int)] 3) (Qc (o:=.cells #[.slice Q L.length V,.map (some T),.map (some rk)] 65) (Qd _)))
   have e:lab part num [f]=fun j=>if j=f then num else part j:=by
    funext j
    simp [lab]
   rw [e];exact hz
  ·have:=owns_one ((w.setCell ⟨g,f,none⟩ (I num)).alloc (.cells #[.slice Q L.length V,.map (some T),.map (some rk)] 65)) (w.heap.size+1) (I (f:Int)) ν;simpa [rowN] using this
  ·have br:Bl U (w.setCell ⟨g,f,none⟩ (I num)):=HZ.out.2.setCell (p:=⟨g,f,none⟩) b8 _;exact Qc (Qc br)
  ·simp [go_sem]
  ·simp [go_sem]
  ·simp [go_sem]
  ·simp
 case round =>
  clear ax HZ z0 zf;obtain ⟨n,R,hn,cm,rfl,z,hD,hM⟩:=hrel;obtain ⟨vA,c5⟩:∃ u,u=u10:=⟨_,rfl⟩;subst c5;have bq:0<R.length:=List.length_pos_of_mem z.1;obtain ⟨rb,rc,rfl,bz,am⟩:=hM.slice bq;have cl:=z.len;have a7:Hid (Sp cr L part f R∧∀ m (hm:m<R.length),m<n→∀ h:R[m]<L.length,DoneT cr L part R L[R[m]] 3):=⟨z,hD⟩;have M:=Hd hM;obtain ⟨p0,p1,p2⟩:=hM.2.2.2.1;have zp:=Bt p0;by_cases h1:n<R.length
  ·have ab:=am n h1;have zr:=Bt ab;have aj:R[n]∈R:=Lm h1;obtain ⟨hi,_⟩:=z.2.2 R[n] aj;obtain ⟨i,aa⟩:∃ i,i=R[n]:=⟨_,rfl⟩;rw [← aa] at ab hi;have ar:=Hd aa;have au:Hid (i∈R):=by rw [aa];exact aj
   clear z hD hM am aa aj;have i1:(n:Int)<(R.length:Int):=γ;have i0:(0:Int)≤(n:Int):=γ;obtain ⟨J,hJ⟩:∃ J,J=jl L L[i] i 3:=⟨_,rfl⟩
   have cj:J.length≤900:=by
    have:=Uv L L[i] i 3;rw [hJ];omega
   have CJ:Hid (∀ a:World,Bl wr a→Cl 89 #[.agg #[.slice Q L.length V,.map (some T),.map (some rk)],I (i:Int)] a fun e w'=>∃ v,e=.returned v∧w'.ownsRow (a.heap.size+1) 79 5 v J.length (flatJ J)∧Bl a w'):=fun a l=>by
    rw [hJ];exact bm.out a i hi (Qb M.out.2.2.1 l)
   have HJ:=Hd hJ;clear hJ;go_wp2;go_cut [31,32,33] (fun c9 ca ao wx=>∃ ja jc,c9=.slice ja J.length jc∧ca=I (J.length:Int)∧ao=I 0∧JW wx (w.heap.size+1) ja J∧Bl wr wx)
   case first =>
    go_region_held3 (fun w'=>At w' w.heap.size 0 (.slice Q L.length V)∧At w' w.heap.size 1 (.map (some T))∧At w' w.heap.size 2 (.map (some rk))∧At w' rb n (I (i:Int)))
     ((refine ⟨?_, ?_, ?_, ?_⟩ <;> (first | (with_reducible (repeat (first | assumption | refine Ql ?_ | refine Qi ?_));done) | (simp [go_sem];done))))
     ((go_at_call 89;refine (CJ.out _ ω).mono ?_;rintro e w8 ⟨v8,rfl,x,hb⟩;obtain ⟨ja,jc,rfl,C⟩:=own_jw x;have P:Bl wr w8:=Qb ω hb;have HQ:Hid (JW w8 wr.heap.size ja J∧Bl wr w8):=⟨C.mono ν,P⟩;have cd:=Qa P p0;have ce:=Qa P p1;have cf:=Qa P p2;have cg:=Qa P ab;clear x C hb P))
    all_goals
     go_wp2;go_meet
     case rel=>exact ⟨_,_,rfl,rfl,rfl,(HQ.out.1.mono γ).kept ω,by with_reducible repeat (first | exact HQ.out.2 | refine Qe ?_)⟩
   case rest =>
    obtain ⟨ja,jc,rfl,rfl,rfl,C,az⟩:=hcut;have av:=Hd C;have ay:Hid (Bl wc wc):=Qd _;have a6:=Hd (M.out.kept az);obtain ⟨WC,a8⟩:∃ W,W=wc:=⟨_,rfl⟩;rw [← a8] at av a6 ay;clear C az p0 p1 p2 zp bz zr ab CJ M;have ac:Hid (Bl WC wc∧w.heap.size+1≤WC.heap.size):=⟨by rw [a8];exact Qd _,a6.out.2.2.2.2⟩;have aw:Hid (SpM U wc w g Q V T rk L part num R (.slice (Az rb) R.length rc)):=by rw [← a8];exact a6.out
    clear ay a6 a8;go_wp2;go_loopg [10,33] J.length (fun gk an ao wx=>∃ (m:Nat) (Y:List Nat),m≤J.length∧gk=J.length - m∧ao=I (m:Int)∧Sp cr L part f (R ++ Y)∧(∀ K (h:K<J.length),K<m→∀ j:Nat,J[K].2=(j:Int)→cr J[K].1=true→j∈R ++ Y∨0≤part j)∧SpM U wx w g Q V T rk L part num (R ++ Y) an∧JW wx (w.heap.size+1) ja J)
    case atStart=>exact ⟨0,[],γ,rfl,rfl,by simpa using a7.out.1,fun K _ h=>by omega,by simpa using aw.out,av.out.kept ac.out.1⟩
    case round =>
     clear aw ac;obtain ⟨m,Y,hm,rfl,rfl,z,hE,hM,C⟩:=hrel;obtain ⟨vC,c6⟩:∃ u,u=u10:=⟨_,rfl⟩;subst c6;have y:=H2 z hE;have M:=Hd hM;have HR:=Hd C;clear z hE hM C;by_cases hm1:m<J.length
     ·have im:(m:Int)<(J.length:Int):=γ;have cw:(0:Int)≤(m:Int):=γ;obtain ⟨jb,rfl,c0,c1,c2,c3,c4⟩:=HR.out.1 m hm1;have d7:=Bt c0;obtain ⟨q,hq⟩:∃ q,q=J[m]:=⟨_,rfl⟩;obtain ⟨⟨D,E,G,H⟩,qj⟩:=q;rw [← hq] at c0 c1 c2 c3 c4;dsimp only at c0 c1 c2 c3 c4;have HQ:=Hd hq;have af:((D,E,G,H),qj)∈jl L L[i] i 3:=by rw [← HJ.out,hq];exact Lm hm1
      obtain ⟨k,hk,be,j,hj,rfl,bb,bc⟩:=Xw.1 af;have N:=H2 be bc;obtain ⟨lc,lf⟩:=M.out.1 j hj;have zg:=Bt lc;have cz:g<wr.heap.size+1:=γ;have ij:(j:Int)<(L.length:Int):=γ;have cv:(0:Int)≤(j:Int):=γ;clear af be bc hq;by_cases hlt:lab part num (R ++ Y) j<0
      ·have ba:j ∉ R ++ Y:=fun hh=>by
        simp only [lab,if_pos hh] at hlt;omega
       obtain ⟨sb,sc,rfl,cq,bj⟩:=M.out.slice δ1;have bv:n<(R ++ Y).length:=δ1;have sn:=bj n bv;rw [show (R ++ Y)[n]=i by rw [List.getElem_append_left h1];exact ar.out.symm] at sn;have d9:=Bt sn;have cx:(n:Int)<((R ++ Y).length:Int):=γ;clear bj;have bw:part j<0:=by simpa [lab,ba] using hlt
       obtain ⟨lv,O⟩:∃ lv,lv=lab part num (R ++ Y) j:=⟨_,rfl⟩;rw [← O] at lc hlt;have ch:=Hd O;clear O
       cases hcr:cr (D,E,G,H)
       ·have CC:Hid (∀ a:World,Bl wr a→Cl F (#[I (i:Int),.agg #[I D,I E,I G,I H,I (j:Int)]] ++ cs) a fun e w'=>e=.returned (.bool false)∧Bl a w'):=fun a l=>hcr ▸ aq.out i j π hj D E G H a bb (by rw [N.out.1];exact Xq _ _) N.out.2 (Qb M.out.2.2.1 l);go_wp2;refine Qj (fun d hW1=>?_);have b:Bl wr d:=by rw [hW1];exact Qc (Qd _)
        have d0:At d wr.heap.size 0 (I D):=Φ;have d1:At d wr.heap.size 1 (I E):=Φ;have d2:At d wr.heap.size 2 (I G):=Φ;have d3:At d wr.heap.size 3 (I H):=Φ;have d4:At d wr.heap.size 4 (I (j:Int)):=Φ;have a2:=Qa b lc;have zn:=Bt d0;have bk:=Bt a2;have ap:=Qa b sn;have cb:=Bt ap;have B:=H2 (M.out.kept b) (HR.out.kept b);have bi:decide (lv<0)=true:=decide_eq_true hlt;have C1:Hid (∀ a:World,Bl d a→Cl F (#[I (i:Int),.agg #[I D,I E,I G,I H,I (j:Int)]] ++ cs) a fun e w'=>e=.returned (.bool false)∧Bl a w'):=fun a l=>CC.out a (Qb b l);clear hW1 b c0 c1 c2 c3 c4 lc lf sn;obtain ⟨kc,kn⟩:=kcn d;refine wk ?_;repeat (go_big_quiet_step ((exact Qm (C1.out _ (Kin.h _)))))
        refine kq1 (fun w5 hq=>?_);clear kc kn;have c:=H2 (B.out.1.kept hq) (B.out.2.kept hq);go_wp2;go_roundg (J.length - (m+1))
        case measure=>omega
        case rel =>
         refine ⟨m+1,Y,γ,rfl,σ,y.out.1,fun K h' X j' s r=>?_,c.out.1,c.out.2⟩;by_cases em:K=m
         ·subst em;rw [← HQ.out] at r;simp only at r;rw [hcr] at r;exact absurd r ν
         ·exact y.out.2 K h' γ j' s r
       ·have CC:Hid (∀ a:World,Bl wr a→Cl F (#[I (i:Int),.agg #[I D,I E,I G,I H,I (j:Int)]] ++ cs) a fun e w'=>e=.returned (.bool true)∧Bl a w'):=fun a l=>hcr ▸ aq.out i j π hj D E G H a bb (by rw [N.out.1];exact Xq _ _) N.out.2 (Qb M.out.2.2.1 l)
        have HF:Hid (Sp cr L part f (R ++ (Y ++ [j]))):=by
         have:=y.out.1.found bo.out (i:=i) (j:=j) (List.mem_append_left _ au.out) hj ba bw (e:=(D,E,G,H)) hcr (fun co=>by
          rw [N.out.1];exact Xq _ _) N.out.2
         rwa [List.append_assoc] at this
        have ae:(R ++ Y).length+1≤1000:=by
         have:=y.out.1.len;omega
        go_wp2;refine Qj (fun d hW1=>?_);have b:Bl wr d:=by rw [hW1];exact Qc (Qd _)
        have d0:At d wr.heap.size 0 (I D):=Φ;have d1:At d wr.heap.size 1 (I E):=Φ;have d2:At d wr.heap.size 2 (I G):=Φ;have d3:At d wr.heap.size 3 (I H):=Φ;have d4:At d wr.heap.size 4 (I (j:Int)):=Φ;have a2:=Qa b lc;have zn:=Bt d0;have bk:=Bt a2;have ap:=Qa b sn;have cb:=Bt ap;have B:=H2 (M.out.kept b) (HR.out.kept b);have bi:decide (lv<0)=true:=decide_eq_true hlt;have C1:Hid (∀ a:World,Bl d a→Cl F (#[I (i:Int),.agg #[I D,I E,I G,I H,I (j:Int)]] ++ cs) a fun e w'=>e=.returned (.bool true)∧Bl a w'):=fun a l=>CC.out a (Qb b l);clear hW1 b c0 c1 c2 c3 c4 lc lf sn;obtain ⟨kc,kn⟩:=kcn d;refine wk ?_;repeat (go_big_quiet_step ((exact Qm (C1.out _ (Kin.h _)))))
        refine kq1 (fun w5 hq=>?_);clear kc kn;have c:=H2 (B.out.1.kept hq) (B.out.2.kept hq);have d5:=Qa hq d4;have d8:=Bt d5;obtain ⟨c7,cy⟩:=c.out.1.1 j hj;have d6:=Bt c7;clear hq;go_wp2_with (at_builtin;refine wpList_append_own _ rfl (.tmp 57) (.tmp 60) 23 rfl (w.heap.size+1) 3 i3 (I 0) 1 8 Tryz.underlying23 HI.out.1 HI.out.2.1 HI.out.2.2.1 HI.out.2.2.2 rfl τ (.slice (Az sb) (R ++ Y).length sc) (R ++ Y).length (rowN (R ++ Y)) rfl ?own ⟨w5.heap.size,0,none⟩ 1 1 [I (j:Int)] rfl rfl ?c1 ?c2 ?b1 ?b2 ?b3 ?grow)
        case own =>
         try rw [← List.length_append]
         exact (c.out.1.2.1.kept (Qg _ g j _) (by
          cases hu:(Value.slice (Az sb) (R ++ Y).length sc).ownBlock with
          | none=>exact Or.inl rfl
          | some q =>
           refine Or.inr (fun e1=>?_);have:=(c.out.1.2.1.lt q hu).1;simp at e1;omega)).alloc _
        case c1=>exact Xb _ ζ
        case c2=>exact Jx _
        case b1 =>
         unfold maxLen;first | omega | (rw [List.length_append] at ae;omega)
        case b2=>first | omega | (rw [List.length_append] at ae;omega)
        case b3 =>
         have:=c.out.1.2.2.2.2;simp;omega
        case grow =>
         intro v' w3 x A _;rw [← List.length_append] at x;try rw [← List.length_append] at A
         have bn:Hid (SpM U w3 w g Q V T rk L part num (R ++ (Y ++ [j])) v'):=by
          have:=c.out.1.more bt b8 hj β1 A x;rwa [List.append_assoc] at this
         have bp:Hid (JW w3 (w.heap.size+1) (Az jb) J):=by
          have h0:=c.out.2.grown (Qg w5 g j (I num)) (fun g' bs e1=>by
           have h2:=(c.out.2.2 g' e1).1;simp at bs;omega)
          have h1:JW w3 (w.heap.size+1) (Az jb) J:=(h0.kept β1).grown A (c.out.2.not_row c.out.1.2.1);exact h1
         clear x A;go_wp2;go_roundg (J.length - (m+1))
         case measure=>omega
         case rel =>
          have Z:∀ q∈R ++ Y,q∈R ++ (Y ++ [j]):=fun q hq=>by
           rw [← List.append_assoc];exact List.mem_append_left _ hq
          refine ⟨m+1,Y ++ [j],γ,rfl,σ,HF.out,fun K h' X j' s r=>?_,bn.out,bp.out⟩;by_cases em:K=m
          ·subst em;rw [← HQ.out] at s;simp only at s;have:j'=j:=γ;subst this;exact Or.inl ν
          ·exact (y.out.2 K h' γ j' s r).imp (Z j') id
      ·have ak:Hid (j∈R ++ Y∨0≤part j):=by
        by_cases hh:j∈R ++ Y
        ·exact Or.inl hh
        ·exact Or.inr (by simp only [lab,if_neg hh] at hlt;omega)
       obtain ⟨lv,O⟩:∃ lv,lv=lab part num (R ++ Y) j:=⟨_,rfl⟩;rw [← O] at lc hlt;clear O;go_wp2;refine Qj (fun d hW1=>?_);have b:Bl wr d:=by rw [hW1];exact Qc (Qd _)
       have d0:At d wr.heap.size 0 (I D):=Φ;have d1:At d wr.heap.size 1 (I E):=Φ;have d2:At d wr.heap.size 2 (I G):=Φ;have d3:At d wr.heap.size 3 (I H):=Φ;have d4:At d wr.heap.size 4 (I (j:Int)):=Φ;have a2:=Qa b lc;have zn:=Bt d0;have bk:=Bt a2;have B:=H2 (M.out.kept b) (HR.out.kept b);have bi:decide (lv<0)=false:=decide_eq_false γ;clear hW1 b c0 c1 c2 c3 c4 lc lf;obtain ⟨kc,kn⟩:=kcn d;refine wk ?_;repeat (go_big_quiet_step (fail))
       refine kq1 (fun w5 hq=>?_);clear kc kn;have c:=H2 (B.out.1.kept hq) (B.out.2.kept hq);go_wp2;go_roundg (J.length - (m+1))
       case measure=>omega
       case rel =>
        refine ⟨m+1,Y,γ,rfl,σ,y.out.1,fun K h' X j' s r=>?_,c.out.1,c.out.2⟩;by_cases em:K=m
        ·subst em;rw [← HQ.out] at s;simp only at s;have:j'=j:=γ;subst this;exact ak.out
        ·exact y.out.2 K h' γ j' s r
     ·have im:¬ (m:Int)<(J.length:Int):=γ;obtain rfl:m=J.length:=γ;go_wp2;go_roundg (L.length - (n+1))
      case measure=>omega
      case rel =>
       have Z:∀ q∈R,q∈R ++ Y:=fun q hq=>List.mem_append_left _ hq;refine ⟨n+1,R ++ Y,δ1,γ,σ,y.out.1,fun m hm cp bu=>?_,M.out⟩;by_cases em:m=n
       ·subst em;have e1:(R ++ Y)[m]=i:=by rw [List.getElem_append_left h1];exact ar.out.symm
        simp only [e1];refine DoneT.joints (i:=i) (List.mem_append_left _ au.out) (fun K X j' s r=>?_);have h8:=y.out.2;rw [HJ.out] at h8;exact h8 K X X j' s r
       ·have bf:m<R.length:=γ;have e1:(R ++ Y)[m]=R[m]:=List.getElem_append_left bf;have h7:=(a7.out.2 m bf γ (by rw [← e1];exact bu)).mono Z;simp only [e1];exact h7
  ·have i1:¬ (n:Int)<(R.length:Int):=γ;clear hM z hD am;go_wp2;go_end0
   refine ⟨rfl,R,a7.out.1,M.out.1,fun i hi h=>?_,M.out.2.2.1⟩;obtain ⟨m,hm,he⟩:=List.getElem_of_mem hi;subst he;exact a7.out.2 m hm γ h
def PartsOk (cr:E4→Bool) (L:List T3) (part:Nat→Int):Prop :=
 (∀ a,a<L.length→0≤part a)∧(∀ a b (ha:a<L.length) (hb:b<L.length),AdjC cr L[a] L[b]→part b=part a) ∧
 (∀ a b (ha:a<L.length) (hb:b<L.length),part a=part b→ReachC cr L L[a] L[b])∧(∀ a,a<L.length→∀ c,0≤c→c<part a→∃ b,b<a∧part b=c)
def PInv (cr:E4→Bool) (L:List T3) (part:Nat→Int) (i c:Nat):Prop :=
 (∀ a,a<L.length→a<i→0≤part a)∧(∀ a b (ha:a<L.length) (hb:b<L.length),AdjC cr L[a] L[b]→0≤part a→part b=part a) ∧
 (∀ a b (ha:a<L.length) (hb:b<L.length),0≤part a→part a=part b→ReachC cr L L[a] L[b])∧(∀ a,a<L.length→part a<c)∧(∀ a,a<L.length→∀ d,0≤d→d<part a→∃ b,b<a∧part b=d)∧(∀ d:Int,0≤d→d<c→∃ b,b<i∧part b=d)
theorem pinv_start (cr:E4→Bool) (L:List T3):PInv cr L (fun _=>-1) 0 0 :=
 ⟨fun a _ h=>by omega,fun a b _ _ _ h=>by simp at h,fun a b _ _ h=>by simp at h,fun a _=>by simp,fun a _ d h1 h2=>by simp at h2;omega,fun d h1 h2=>by simp at h2;omega⟩
theorem PInv.skip (h:PInv cr L part i c) (hp:0≤part i):PInv cr L part (i+1) c:=by
 obtain ⟨h1,h2,h3,h4,h5,h6⟩:=h;refine ⟨fun a f hi=>?_,h2,h3,h4,h5,fun d j g=>?_⟩
 ·by_cases e:a=i
  ·rw [e];exact hp
  ·exact h1 a f γ
 ·obtain ⟨b,hb,k⟩:=h6 d j g;exact ⟨b,γ,k⟩
theorem PInv.done (h:PInv cr L part L.length c):PartsOk cr L part:=by
 obtain ⟨h1,h2,h3,h4,h5,h6⟩:=h;exact ⟨fun a d=>h1 a d d,fun a b d hb f=>h2 a b d hb f (h1 a d d),fun a b d hb e=>h3 a b d hb (h1 a d d) e,h5⟩
theorem PInv.next {R:List Nat} (h:PInv cr L part i c) (_hk:∀ t∈L,Kd t) (_hnd:L.Nodup) (_hi:i<L.length) (_hp:part i<0) (v:Sp cr L part i R) (hD:∀ a∈R,∀ j:a<L.length,DoneT cr L part R L[a] 3):PInv cr L (lab part (c:Int) R) (i+1) (c+1):=by
 obtain ⟨h1,h2,h3,h4,h5,h6⟩:=h;have l:∀ a,a∈R→lab part (c:Int) R a=c:=fun a j=>by simp [lab,j]
 have g:∀ a,a ∉ R→lab part (c:Int) R a=part a:=fun a j=>by simp [lab,j]
 have p:∀ a,a∈R→∃ j:a<L.length,part a<0∧i≤a:=fun a j=>by
  obtain ⟨D,z,_⟩:=v.2.2 a j;refine ⟨D,z, ?_⟩;rcases Nat.lt_or_ge a i with q | q
  ·have:=h1 a D q;omega
  ·exact q
 have x:∀ a b (j:a<L.length) (hb:b<L.length),AdjC cr L[a] L[b]→a∈R→b∈R:=fun a b j hb n f=>by
  obtain ⟨C,e,e1,e2,E⟩:=n;obtain ⟨k,B,y⟩:=Uf e1;have s:=hD a f j k B (by rw [y];exact E) b hb (by rw [y];exact e2);rcases s with s | s
  ·exact s
  ·have D:=h2 b a hb j (AdjC.symm ⟨C,e,e1,e2,E⟩) s;obtain ⟨_,z,_⟩:=p a f;omega
 refine ⟨fun a j F=>?_,fun a b j hb n r=>?_,fun a b j hb r A=>?_,fun a j=>?_,fun a j d s u=>?_,fun d s G=>?_⟩
 ·by_cases f:a∈R
  ·rw [l a f];omega
  ·rw [g a f];by_cases e:a=i
   ·exact absurd (e ▸ v.1) f
   ·exact h1 a j γ
 ·by_cases f:a∈R
  ·rw [l a f,l b (x a b j hb n f)]
  ·rw [g a f] at r ⊢;have m:b ∉ R:=fun q=>f (x b a hb j n.symm q);rw [g b m];exact h2 a b j hb n r
 ·by_cases f:a∈R
  ·by_cases m:b∈R
   ·obtain ⟨_,_,_,r1⟩:=v.2.2 a f;obtain ⟨_,_,_,r2⟩:=v.2.2 b m;exact r1.symm.trans r2
   ·rw [l a f,g b m] at A;have:=h4 b hb;omega
  ·by_cases m:b∈R
   ·rw [g a f,l b m] at A;have:=h4 a j;omega
   ·rw [g a f,g b m] at A;rw [g a f] at r;exact h3 a b j hb r A
 ·by_cases f:a∈R
  ·rw [l a f];omega
  ·rw [g a f];have:=h4 a j;omega
 ·by_cases f:a∈R
  ·rw [l a f] at u;obtain ⟨b,hb,o⟩:=h6 d s u;obtain ⟨_,_,H⟩:=p a f;refine ⟨b,γ, ?_⟩;rw [g b (fun q=>by obtain ⟨_,z,_⟩:=p b q;omega)];exact o
  ·rw [g a f] at u;obtain ⟨b,hb,o⟩:=h5 a j d s u;refine ⟨b,hb, ?_⟩;rw [g b (fun q=>by obtain ⟨_,z,_⟩:=p b q;omega)];exact o
 ·by_cases e:d=c
  ·exact ⟨i,γ,by rw [l i v.1,e]⟩
  ·obtain ⟨b,hb,o⟩:=h6 d s γ;refine ⟨b,γ, ?_⟩;rw [g b (fun q=>by obtain ⟨_,z,_⟩:=p b q;omega)];exact o
theorem rp_zrow {z:Int} (h:w.heap[g]?=some (.cells (rp z n n).toArray 3 (0,0))):ZRow w g n (fun _=>z):=fun i hi=>by
 have e:rp z n n=List.replicate n (I z):=by simp [rp]
 rw [e] at h;refine ⟨?_, ?_⟩
 ·simp [World.cell?,h,hi]
 ·simp [World.frozen?,h]
theorem joined1_any (n a b c d t:Int) (w:World):Rt 91 #[I n,.agg #[I a,I b,I c,I d,I t]] w (.bool true):=by
 go_enter Tryz.func91,Tryz.ntmps91;go_wp2;go_ret;exact ⟨rfl,Qc (Qd _)⟩
theorem Gm (w:World) (d k l:Nat) (a:Option Addr) (L:List T3) (F:Nat) (cs:Array Value) (Q:∀ (args:Array Value) (w:World),(callFunc F args).run Tryz.prog w=.ok (.enter F args) w) (cr:E4→Bool) (hs:Steps w) (G:PA w a k L) (hL:L.length≤300) (A:L.Nodup) (y:∀ t∈L,(0≤t.1∧t.1≤8)∧(0≤t.2.1∧t.2.1≤8)∧(0≤t.2.2∧t.2.2≤3))
  (E:∀ (i j:Nat) (hi:i<L.length) (hj:j<L.length) (q r s B:Int) (D:World),j≠i→hasT L[i] (q,r,s,B)=true→hasT L[j] (q,r,s,B)=true→Bl w D→Cl F (#[I (i:Int),.agg #[I q,I r,I s,I B,I (j:Int)]] ++ cs) D fun e w'=>e=.returned (.bool (cr (q,r,s,B)))∧Bl D w') :
  Cl 19 #[.agg #[.slice a L.length d,.map (some k),.map (some l)],.func (.func F) #[] cs] w fun e w'=>∃ g part,e=.returned (.slice (Az g) L.length L.length)∧ZRow w' g L.length part∧PartsOk cr L part∧w.heap.size≤g∧Bl w w':=by
 have p:Bl w ((w.alloc (.cells #[.slice a L.length d,.map (some k),.map (some l)] 65)).alloc (.cells #[I (-1)] 3)):=Qc β1
 have C:Hid (∀ (g f:Nat) (part:Nat→Int) (num:Int) (v:World),Below ((w.alloc (.cells #[.slice a L.length d,.map (some k),.map (some l)] 65)).alloc (.cells #[I (-1)] 3)).heap.size ((w.alloc (.cells #[.slice a L.length d,.map (some k),.map (some l)] 65)).alloc (.cells #[I (-1)] 3)) v→((w.alloc (.cells #[.slice a L.length d,.map (some k),.map (some l)] 65)).alloc (.cells #[I (-1)] 3)).heap.size≤g→ZRow v g L.length part→f<L.length→part f<0→(0≤num∧num≤1000)→Cl 43 #[.agg #[.slice a L.length d,.map (some k),.map (some l)],.slice (Az g) L.length L.length,I (f:Int),I num,.func (.func F) #[] cs] v fun e w'=>e=.returned (.tuple #[])∧∃ R,Sp cr L part f R∧ZRow w' g L.length (lab part num R)∧(∀ i∈R,∀ h:i<L.length,DoneT cr L part R L[i] 3)∧Below ((w.alloc (.cells #[.slice a L.length d,.map (some k),.map (some l)] 65)).alloc (.cells #[I (-1)] 3)).heap.size ((w.alloc (.cells #[.slice a L.length d,.map (some k),.map (some l)] 65)).alloc (.cells #[I (-1)] 3)) w'):=fun g f part num v h1 h2 h3 h4 h5 h6 =>
  spread_g ((w.alloc (.cells #[.slice a L.length d,.map (some k),.map (some l)] 65)).alloc (.cells #[I (-1)] 3)) v g d k l f a L part num F cs Q cr (hs.kept p) (G.kept p) h1 h2 h3 h4 h5 h6 hL A y (fun i j hi hj q r s B D e1 e2 e3 T=>E i j hi hj q r s B D e1 e2 e3 (Qb p T))
 have O:Hid (∀ t∈L,Kd t):=fun t ht=>(y t ht).2.2;have N:=Hd A;clear hs G p A y E;go_enter Tryz.func19,Tryz.ntmps19;go_wp2_with (go_at_call 42;refine (repeat_any (-1) (w.heap.size+1) L.length _ γ ζ).mono ?_;rintro e w1 ⟨rfl,u,hb⟩;have n:=H2 (rp_zrow u) hb;have p0:At w1 w.heap.size 0 (.slice a L.length d):=Qa hb ζ;clear u hb)
 obtain ⟨o,b⟩:∃ W,W=((w.alloc (.cells #[.slice a L.length d,.map (some k),.map (some l)] 65)).alloc (.cells #[I (-1)] 3)):=⟨_,rfl⟩;have q:At o w.heap.size 0 (.slice a L.length d):=by rw [b];simp [go_sem]
 have r:At o w.heap.size 1 (.map (some k)):=by rw [b];simp [go_sem]
 have s:At o w.heap.size 2 (.map (some l)):=by rw [b];simp [go_sem]
 have hz:o.heap.size=w.heap.size+2:=by rw [b];simp
 have M:Hid (Bl w o):=by rw [b];exact Qc β1
 rw [← b] at C n;have P:=H3 q r s;obtain ⟨g,hg⟩:∃ g,g=w.heap.size+1+1:=⟨_,rfl⟩;rw [show o.heap.size=g by omega] at n;have X:Hid (g=w.heap.size+1+1∧o.heap.size=g):=⟨hg,γ⟩;rw [← hg];clear b q r s hg hz;go_wp2;go_loopg [6,16] L.length (fun gk s6 V v=>∃ (i:Nat) (c:Nat) (part:Nat→Int),i≤L.length∧gk=L.length - i∧V=I (i:Int)∧s6=I (c:Int)∧c≤i∧PInv cr L part i c∧ZRow v g L.length part∧Bl o v)
 case atStart=>exact ⟨0,0,_,γ,rfl,rfl,rfl,γ,pinv_start _ _,n.out.1,n.out.2⟩
 case round =>
  clear n p0;obtain ⟨i,c,part,hi,rfl,rfl,rfl,a2,Z,hZ,Y⟩:=hrel;have m:=H3 Z hZ Y;clear Z hZ Y;have p0:At wr w.heap.size 0 (.slice a L.length d):=Qa m.out.2.2 P.out.1;have p1:At wr w.heap.size 1 (.map (some k)):=Qa m.out.2.2 P.out.2.1;have p2:At wr w.heap.size 2 (.map (some l)):=Qa m.out.2.2 P.out.2.2;by_cases h1:i<L.length
  ·have i1:(i:Int)<(L.length:Int):=γ;have i0:(0:Int)≤(i:Int):=γ;obtain ⟨zc,_⟩:=m.out.2.1 i h1;obtain ⟨U,z⟩:∃ U,U=part i:=⟨_,rfl⟩;rw [← z] at zc;have x:=Hd z;clear z;by_cases hneg:U<0
   ·go_wp2_with (go_at_call 43;refine (C.out g i part (c:Int) _ m.out.2.2 (by rw [X.out.2];exact Nr _) m.out.2.1 h1 (by rw [← x.out];exact hneg) γ).mono ?_;rintro e w2 ⟨rfl,R,H,J,hD,K⟩;have HN:Hid (PInv cr L (lab part (c:Int) R) (i+1) (c+1)∧ZRow w2 g L.length (lab part (c:Int) R)∧Bl o w2):=⟨m.out.1.next O.out N.out h1 (by rw [← x.out];exact hneg) H hD,J,K⟩;clear H J hD K)
    go_roundg (L.length - (i+1))
    case measure=>omega
    case rel=>exact ⟨i+1,c+1,_,γ,rfl,σ,σ,γ,HN.out⟩
   ·go_wp2;go_roundg (L.length - (i+1))
    case measure=>omega
    case rel=>exact ⟨i+1,c,part,γ,rfl,σ,rfl,γ,m.out.1.skip (by rw [← x.out];omega),m.out.2⟩
  ·have i1:¬ (i:Int)<(L.length:Int):=γ;obtain rfl:i=L.length:=γ;go_wp2;go_ret;exact ⟨g,rfl,part,m.out.2.1,m.out.1.done,by have:=X.out.1;omega,Qb M.out m.out.2.2⟩
theorem max_zero:∀ (l:List Int) (a:Int),(∀ x∈l,0≤x)→0≤a→(l.foldl max a=0↔a=0∧∀ x∈l,x=0)
 | [],a,_,_=>by simp
 | x :: r,a,h,ha=>by
  have d:=h x ν;have c:=max_zero r (max a x) (fun y b=>h y (by simp [b])) γ;rw [List.foldl_cons,c];constructor
  ·rintro ⟨h1,h2⟩;refine ⟨γ,fun y b=>?_⟩;rcases List.mem_cons.1 b with rfl | b
   ·omega
   ·exact h2 y b
  ·rintro ⟨h1,h2⟩;refine ⟨?_,fun y b=>h2 y (by simp [b])⟩;have:=h2 x ν;omega
theorem maxOf_zero {l:List Int} (hl:l≠[]) (h:∀ x∈l,0≤x):Lib.maxOf l=0↔∀ x∈l,x=0:=by
 cases l with
 | nil=>exact absurd rfl hl
 | cons a r =>
  unfold Lib.maxOf;rw [List.headD_cons,max_zero _ _ h (h a ν)];exact ⟨fun q=>q.2,fun q=>⟨q a ν,q⟩⟩
theorem parts_joined (h:PartsOk (fun _=>true) L part) (e:L.Nodup) (h0:0<L.length):(∀ a,a<L.length→part a=0)↔Joined L:=by
 obtain ⟨h1,h2,h3,h4⟩:=h
 have g:part 0=0:=by
  rcases Int.lt_or_le 0 (part 0) with q | q
  ·obtain ⟨b,hb,_⟩:=h4 0 h0 0 (Int.le_refl _) q;omega
  ·have:=h1 0 h0;omega
 exact reached_joined h0 (fun a=>part a=0) g (fun a d q=>reach_all.1 (h3 0 a h0 d (by rw [g,q]))) (fun a b d hb q c=>by
  have:=h2 a b d hb ⟨c.1,c.2.imp fun _ f=>⟨f.1,f.2,rfl⟩⟩;omega) e
theorem Vo (w:World) (u r A:Nat) (n:Option Addr) (L:List T3) (hs:Steps w) (f:PA w n r L) (D:L.length≤300) (b:L.Nodup) (k:∀ t∈L,(0≤t.1∧t.1≤8)∧(0≤t.2.1∧t.2.1≤8)∧(0≤t.2.2∧t.2.2≤3)) :
  Cl 47 #[.agg #[.slice n L.length u,.map (some r),.map (some A)]] w fun e w'=>∃ bb:Bool,e=.returned (.bool bb)∧(bb=true↔Joined L)∧Bl w w':=by
 have B:Hid (∀ d:World,Bl w d→Cl 19 #[.agg #[.slice n L.length u,.map (some r),.map (some A)],.func (.func 91) #[] #[]] d fun e w'=>∃ g part,e=.returned (.slice (Az g) L.length L.length)∧ZRow w' g L.length part∧PartsOk (fun _=>true) L part∧d.heap.size≤g∧Bl d w'):=fun d hb=>Gm d u r A n L 91 #[] (fun _ _=>by simp [go_sem]) (fun _=>true) (hs.kept hb) (f.kept hb) D b k (fun i j _ _ H J z K C _ _ _ _=>joined1_any i H J z K j C);have s:=Hd b;clear hs f b k;by_cases h0:0<L.length
 ·have G:(0:Int)<(L.length:Int):=γ;go_enter Tryz.func47,Tryz.ntmps47
  go_wp2_with (first
   | (go_at_call 19;refine (B.out _ Δ).mono ?_;rintro e w1 ⟨g,part,rfl,p,o,hg,hb⟩;have c:=H3 p o (Qb β1 hb);clear p o hb hg)
   | (go_at_call 70;refine (Tryz.slices_Max_int g 0 L.length L.length ((List.range L.length).map part) _ h0 ν γ (fun j E=>by
     have l:j<L.length:=by simpa using E
     rw [Nat.zero_add,(c.out.1 j l).1];simp [l])).mono ?_;rintro e M ⟨rfl,m⟩;have v:=m.symm;clear m;subst v))
  go_ret
  have F:(Lib.maxOf (((List.range L.length).map part).take L.length)=0)↔Joined L:=by
   rw [List.take_of_length_le ν,maxOf_zero (fun q=>by
    have z:=congrArg List.length q;rw [List.length_map,List.length_range,List.length_nil] at z;omega) (fun x y=>by
    obtain ⟨a,h,rfl⟩:=List.mem_map.1 y;exact c.out.2.1.1 a (by simpa using h))]
   rw [← parts_joined c.out.2.1 s.out h0];constructor
   ·intro q a h;exact q _ (List.mem_map.2 ⟨a,by simpa using h,rfl⟩)
   ·intro q x y;obtain ⟨a,h,rfl⟩:=List.mem_map.1 y;exact q a (by simpa using h)
  refine ⟨_,rfl, ?_,c.out.2.2⟩;rw [← F];simp
 ·have G:¬ (0:Int)<(L.length:Int):=γ;go_enter Tryz.func47,Tryz.ntmps47;go_wp2_with (go_at_call 19;refine (B.out _ Δ).mono ?_;rintro e w1 ⟨g,part,rfl,p,o,hg,hb⟩;have c:=Hd (Qb β1 hb);clear p o hb hg)
  go_ret;refine ⟨_,rfl,⟨fun q=>?_,fun q=>absurd q.1 h0⟩,c.out⟩;first | exact Bool.noConfusion q | (exfalso;simp at q;done) | (exfalso;simp at q;omega)
def idM:M6:=(1,0,0,1,0,0)
def noM:M6:=(0,0,0,0,0,0)
def aft (m n:M6):M6 :=
 (dot n.1 n.2.1 m.1 m.2.2.1,dot n.1 n.2.1 m.2.1 m.2.2.2.1,dot n.2.2.1 n.2.2.2.1 m.1 m.2.2.1,dot n.2.2.1 n.2.2.2.1 m.2.1 m.2.2.2.1,dot n.1 n.2.1 m.2.2.2.2.1 m.2.2.2.2.2+n.2.2.2.2.1,dot n.2.2.1 n.2.2.2.1 m.2.2.2.2.1 m.2.2.2.2.2+n.2.2.2.2.2)
def lnW (e:E4):Int:=if e.1=e.2.2.1 then 0 else if e.2.1=e.2.2.2 then 1 else if e.2.2.2<e.2.1 then 2 else 3
def lnC (e:E4):Int:=if e.1=e.2.2.1 then e.1 else if e.2.1=e.2.2.2 then e.2.1 else if e.2.2.2<e.2.1 then e.1+e.2.1 else e.1 - e.2.1
def mir (v c:Int):M6:=(mA v,mB v,mB v,mD v,mE v c,mF v c)
def farM (kd:E4→Int) (e:E4) (m:M6):M6:=if kd e=0 then m else aft (mir (lnW e) (lnC e)) m
def mapM (m:M6):Bool:=mapB m.1 m.2.1 m.2.2.1 m.2.2.2.1 m.2.2.2.2.1 m.2.2.2.2.2
def GoodM (m:M6) (B:Int):Prop:=mapM m=true∧(-B≤m.2.2.2.2.1∧m.2.2.2.2.1≤B)∧(-B≤m.2.2.2.2.2∧m.2.2.2.2.2≤B)
theorem GoodM.mono {B C:Int} (h:GoodM m B) (a:B≤C):GoodM m C:=⟨h.1,⟨by have:=h.2.1;omega,by have:=h.2.1;omega⟩,⟨by have:=h.2.2;omega,by have:=h.2.2;omega⟩⟩
theorem idM_good:GoodM idM 0:=⟨τ,τ,τ⟩
theorem noM_not:mapM noM=false:=τ
theorem Zp (h:hasT t e=true) (hb:(0≤t.1∧t.1≤8)∧(0≤t.2.1∧t.2.1≤8)∧(0≤t.2.2∧t.2.2≤3)):lineB (lnW e) (lnC e)=true∧-40≤lnC e∧lnC e≤40:=by
 obtain ⟨x,y,k⟩:=t;obtain ⟨p,q,r,s⟩:=e;simp only [hasT] at h hb;rw [Jb] at h;obtain ⟨d,f,c⟩:=hb;have a:k=0∨k=1∨k=2∨k=3:=γ
 have b:(p=r→p % 2=0)∧(q=s→q % 2=0)∧(p+q) % 2=0∧(0≤p∧p≤18)∧(0≤q∧q≤18):=by
  rcases a with rfl | rfl | rfl | rfl <;> simp only [Km,Kl,Kk,Kj,Ki,Kh,Kg,Kf,Ke,Kc,Kb,Ka] at h <;> omega
 clear h a;by_cases c1:p=r
 ·simp only [lineB,lnW,lnC,if_pos c1,decide_eq_true_eq];omega
 ·by_cases c2:q=s
  ·simp only [lineB,lnW,lnC,if_neg c1,if_pos c2,decide_eq_true_eq];omega
  ·by_cases c3:s<q
   ·simp only [lineB,lnW,lnC,if_neg c1,if_neg c2,if_pos c3,decide_eq_true_eq];omega
   ·simp only [lineB,lnW,lnC,if_neg c1,if_neg c2,if_neg c3,decide_eq_true_eq];omega
theorem Gp {v c:Int} (h:lineB v c=true) (hb : -40≤c∧c≤40):GoodM (mir v c) 80:=by
 obtain ⟨h0,h3,b1,b2,b3⟩:=line_bd h;have a:v=0∨v=1∨v=2∨v=3:=γ;rcases a with rfl | rfl | rfl | rfl <;> simp [GoodM,mapM,mir,mapB,mA,mB,mD,mE,mF,unitB,evenB] <;> omega
theorem Xh {a b c d e f:Int} (h:mapB a b c d e f=true):((a=1∨a=-1)∧b=0∧c=0∧(d=1∨d=-1))∨(a=0∧(b=1∨b=-1)∧(c=1∨c=-1)∧d=0):=by
 simp only [mapB,unitB,Bool.and_eq_true,Bool.or_eq_true,decide_eq_true_eq] at h;omega
theorem map_of {a b c d e f:Int} (h:((a=1∨a=-1)∧b=0∧c=0∧(d=1∨d=-1))∨(a=0∧(b=1∨b=-1)∧(c=1∨c=-1)∧d=0)) (g:e % 2=0∧-1000000≤e∧e≤1000000) (i:f % 2=0∧-1000000≤f∧f≤1000000):mapB a b c d e f=true:=by
 simp only [mapB,unitB,evenB,Bool.and_eq_true,Bool.or_eq_true,decide_eq_true_eq];omega
theorem aft_good {n:M6} {B:Int} (o:GoodM m 80) (p:GoodM n B) (r:B≤900000):GoodM (aft m n) (B+160):=by
 obtain ⟨a,b,c,d,e,f⟩:=m;obtain ⟨A,g,C,D,E,F⟩:=n;obtain ⟨h,k,l⟩:=o;obtain ⟨n1,n2,n3⟩:=p;simp only [mapM] at h k l n1 n2 n3;have q:=(Zo h).2.2;have ne:=(Zo n1).2.2;have ml:=Xh h;have i:=Xh n1
 have j:(((dot A g a c=1∨dot A g a c=-1)∧dot A g b d=0∧dot C D a c=0∧(dot C D b d=1∨dot C D b d=-1))∨(dot A g a c=0∧(dot A g b d=1∨dot A g b d=-1)∧(dot C D a c=1∨dot C D a c=-1)∧dot C D b d=0))∧(dot A g e f=e∨dot A g e f=-e∨dot A g e f=f∨dot A g e f=-f)∧(dot C D e f=e∨dot C D e f=-e∨dot C D e f=f∨dot C D e f=-f):=by
  clear h k l n1 n2 n3 q ne;refine ⟨?_, ?_, ?_⟩
  ·rcases ml with ⟨rfl | rfl,rfl,rfl,rfl | rfl⟩ | ⟨rfl,rfl | rfl,rfl | rfl,rfl⟩ <;> rcases i with ⟨rfl | rfl,rfl,rfl,rfl | rfl⟩ | ⟨rfl,rfl | rfl,rfl | rfl,rfl⟩ <;> decide
  ·rcases i with ⟨rfl | rfl,rfl,rfl,rfl | rfl⟩ | ⟨rfl,rfl | rfl,rfl | rfl,rfl⟩ <;> simp [dot]
  ·rcases i with ⟨rfl | rfl,rfl,rfl,rfl | rfl⟩ | ⟨rfl,rfl | rfl,rfl | rfl,rfl⟩ <;> simp [dot]
 obtain ⟨k1,k2,k3⟩:=j;clear ml i h n1;refine ⟨?_, ?_, ?_⟩
 ·refine map_of (by simp only [aft];exact k1) ?_ ?_ <;> simp only [aft] <;> omega
 ·simp only [aft];omega
 ·simp only [aft];omega
theorem far_good {B:Int} (h:hasT t e=true) (hb:(0≤t.1∧t.1≤8)∧(0≤t.2.1∧t.2.1≤8)∧(0≤t.2.2∧t.2.2≤3)) (a:GoodM m B) (b:B≤900000):GoodM (farM kd e m) (B+160):=by
 unfold farM;split
 ·exact a.mono γ
 ·exact aft_good (Gp (Zp h hb).1 (Zp h hb).2) a b
def Cons (kd:E4→Int) (L:List T3) (N:Nat→M6):Prop :=
 N 0=idM∧∀ i j (hi:i<L.length) (hj:j<L.length) e,i≠j→hasT L[i] e=true→hasT L[j] e=true→N j=farM kd e (N i)
def MI (kd:E4→Int) (L:List T3) (K:List Nat) (M:Nat→M6):Prop :=
 0∈K∧K.Nodup∧M 0=idM∧(∀ i∈K,i<L.length∧GoodM (M i) (160*(K.length:Int)))∧∀ N,Cons kd L N→∀ i∈K,M i=N i
theorem MI.start (h0:0<L.length) (a:M 0=idM):MI kd L [0] M:=by
 refine ⟨ν,ν,a,fun i hi=>?_,fun N b i hi=>?_⟩
 ·simp at hi;subst hi;rw [a];exact ⟨h0,idM_good.mono ν⟩
 ·simp at hi;subst hi;rw [a,b.1]
theorem MI.len {K:List Nat} (h:MI kd L K M):K.length≤L.length:=Yy _ _ h.2.1 (fun i hi=>(h.2.2.2.1 i hi).1)
theorem snoc_nodup {K:List Nat} (h:K.Nodup) (d:j ∉ K):(K ++ [j]).Nodup:=by
 rw [List.nodup_append];refine ⟨h,ν,fun a c b hb=>?_⟩;simp at hb;subst hb;exact fun e=>d (e ▸ c)
theorem MI.found {K:List Nat} (h:MI kd L K M) (n:L.length≤300) (d:∀ t∈L,(0≤t.1∧t.1≤8)∧(0≤t.2.1∧t.2.1≤8)∧(0≤t.2.2∧t.2.2≤3)) (hi:i∈K) (k:j<L.length) (b:j ∉ K) (h1:∀ a:i<L.length,hasT L[i] e=true) (h2:hasT L[j] e=true):MI kd L (K ++ [j]) (fun q=>if q=j then farM kd e (M i) else M q):=by
 have l:=h.len;obtain ⟨a1,m,a3,a4,a5⟩:=h;obtain ⟨a,f⟩:=a4 i hi;have g:i≠j:=fun e=>b (e ▸ hi);have h0:(0:Nat)≠j:=fun e=>b (e ▸ a1);refine ⟨List.mem_append_left _ a1,snoc_nodup m b, ?_,fun q hq=>?_,fun N c q hq=>?_⟩
 ·simp only [if_neg h0];exact a3
 ·have hl:((K ++ [j]).length:Int)=(K.length:Int)+1:=ν;rw [hl];rcases List.mem_append.1 hq with hq | hq
  ·have:q≠j:=fun e=>b (e ▸ hq);simp only [if_neg this];exact ⟨(a4 q hq).1,(a4 q hq).2.mono γ⟩
  ·simp at hq;subst hq;simp only [if_true];exact ⟨k,(far_good (h1 a) (d _ (Lm a)) f γ).mono γ⟩
 ·rcases List.mem_append.1 hq with hq | hq
  ·have:q≠j:=fun e=>b (e ▸ hq);simp only [if_neg this];exact a5 N c q hq
  ·simp at hq;subst hq;simp only [if_true];rw [c.2 i q a k e g (h1 a) h2,a5 N c i hi]
theorem MI.tear {K:List Nat} (h:MI kd L K M) (hi:i∈K) (f:j∈K) (d:i≠j) (h1:∀ a:i<L.length,hasT L[i] e=true) (h2:∀ b:j<L.length,hasT L[j] e=true) (g:M j≠farM kd e (M i)):¬ ∃ N,Cons kd L N:=by
 rintro ⟨N,c⟩;obtain ⟨a1,k,a3,a4,a5⟩:=h;have a:=(a4 i hi).1;have b:=(a4 j f).1;apply g;rw [a5 N c i hi,a5 N c j f];exact c.2 i j a b e d (h1 a) (h2 b)
def EdK (kd:E4→Int) (L:List T3) (K:List Nat) (M:Nat→M6) (i:Nat) (e:E4):Prop := ∀ j (hj:j<L.length),i≠j→hasT L[j] e=true→j∈K∧M j=farM kd e (M i)
def EdN (kd:E4→Int) (L:List T3) (K:List Nat) (M:Nat→M6) (i n:Nat):Prop := ∀ k,k<n→∀ hi:i<L.length,EdK kd L K M i (edg L[i] k)
theorem EdK.mono {K d:List Nat} {f:Nat→M6} (h:EdK kd L K M i e) (hi:i∈K) (hs:∀ q∈K,q∈d∧f q=M q):EdK kd L d f i e:=fun j g c k=>by
 obtain ⟨a,b⟩:=h j g c k;exact ⟨(hs j a).1,by rw [(hs j a).2,(hs i hi).2];exact b⟩
theorem EdN.mono {K b:List Nat} {c:Nat→M6} (h:EdN kd L K M i n) (hi:i∈K) (hs:∀ q∈K,q∈b∧c q=M q):EdN kd L b c i n:=fun k d a=>(h k d a).mono hi hs
theorem Vq (h:Joined L) (g:L.Nodup) (S:Nat→Prop) (h0:S 0) (l:∀ i j (hi:i<L.length) (m:j<L.length),S i→Adj L[i] L[j]→S j):∀ i,i<L.length→S i:=by
 obtain ⟨hp,hr⟩:=h;intro i hi
 obtain ⟨c,d,e,hs⟩:=(hr i hi).2 (fun u=>∃ c,∃ d:c<L.length,L[c]=u∧S c) ⟨0,hp,rfl,h0⟩ (fun a b k hb f=>by
  obtain ⟨c,d,e,hs⟩:=k;obtain ⟨q,hq,e2⟩:=List.getElem_of_mem hb;subst e e2;exact ⟨q,hq,rfl,l c q d hq hs f⟩)
 have:=Jp g d hi e;subst this;exact hs
theorem EdN.adj {K:List Nat} (h:EdN kd L K M i 3) (hi:i<L.length) (b:j<L.length) (a:i≠j) (h1:hasT L[i] e=true) (h2:hasT L[j] e=true):j∈K∧M j=farM kd e (M i):=by
 obtain ⟨k,c,rfl⟩:=Uf h1;exact h k c hi j b a h2
theorem adj_ne {hi:i<L.length} {a:j<L.length} (h:Adj L[i] L[j]):i≠j:=fun e=>by
 subst e;exact h.1 rfl
theorem closed_k {K a:List Nat} (g:Joined L) (d:L.Nodup) (h0:0∈a) (b:∀ i∈K,i∈a) (c:∀ i∈a,EdN kd L K M i 3):∀ i,i<L.length→i∈a :=
 Vq g d (fun i=>i∈a) h0 (fun i j hi h hs f=>by
  obtain ⟨e,h1,h2⟩:=f.2;exact b _ ((c i hs).adj hi h (adj_ne f) h1 h2).1)
theorem MI.cons {K:List Nat} (f:Joined L) (b:L.Nodup) (h:MI kd L K M) (a:∀ i∈K,EdN kd L K M i 3):(∀ i,i<L.length→i∈K)∧Cons kd L M:=by
 have d:=closed_k f b h.1 (fun _ h=>h) a;exact ⟨d,h.2.2.1,fun i j hi g e c h1 h2=>((a i (d i hi)).adj hi g c h1 h2).2⟩
theorem cons_one {N a:Nat→M6} (g:Joined L) (c:L.Nodup) (h:Cons kd L N) (d:Cons kd L a):∀ i,i<L.length→N i=a i :=
 Vq g c (fun i=>N i=a i) (h.1.trans d.1.symm) (fun i j hi f hs b=>by
  obtain ⟨e,h1,h2⟩:=b.2;rw [h.2 i j hi f e (adj_ne b) h1 h2,d.2 i j hi f e (adj_ne b) h1 h2,hs])
theorem Zz (h:hasT t e=true) (hb:(0≤t.1∧t.1≤8)∧(0≤t.2.1∧t.2.1≤8)∧(0≤t.2.2∧t.2.2≤3)):(0≤e.1∧e.1≤100)∧(0≤e.2.1∧e.2.1≤100)∧(0≤e.2.2.1∧e.2.2.1≤100)∧(0≤e.2.2.2∧e.2.2.2≤100):=by
 obtain ⟨x,y,k⟩:=t;obtain ⟨p,q,r,s⟩:=e;simp only [hasT] at h hb;rw [Jb] at h;obtain ⟨c,d,b⟩:=hb;have a:k=0∨k=1∨k=2∨k=3:=γ;dsimp only;rcases a with rfl | rfl | rfl | rfl <;> simp only [Km,Kl,Kk,Kj,Ki,Kh,Kg,Kf,Ke,Kc,Kb,Ka] at h <;> omega
theorem len_of_all:∀ (n:Nat) (R:List Nat),(∀ i,i<n→i∈R)→n≤R.length
 | 0,_,_=>Nat.zero_le _
 | n+1,R,h=>by
  have a:=h n γ;have h1:=len_of_all n (R.erase n) (fun i hi=>(List.mem_erase_of_ne γ).2 (h i γ));rw [List.length_erase_of_mem a] at h1;have:=List.length_pos_of_mem a;omega
theorem good_walk (h0:0<L.length) (p:L.length≤300) (d:∀ t∈L,(0≤t.1∧t.1≤8)∧(0≤t.2.1∧t.2.1≤8)∧(0≤t.2.2∧t.2.2≤3)) (g:Cons kd L M) :
  ∀ m,m≤L.length→∃ K:List Nat,K.Nodup∧0∈K∧(∀ i∈K,i<L.length∧GoodM (M i) (160*(K.length:Int)))∧(m+1≤K.length∨∀ i j (hi:i<L.length) (c:j<L.length),i∈K→Adj L[i] L[j]→j∈K)
 | 0,_=>⟨[0],ν,ν,fun i hi=>by
   simp at hi;subst hi;rw [g.1];exact ⟨h0,idM_good.mono ν⟩,Or.inl ν⟩
 | m+1,hm=>by
  obtain ⟨K,h1,h2,h3,h4⟩:=good_walk h0 p d g m γ;by_cases hc:∀ i j (hi:i<L.length) (c:j<L.length),i∈K→Adj L[i] L[j]→j∈K
  ·exact ⟨K,h1,h2,h3,Or.inr hc⟩
  ·have n:m+1≤K.length:=h4.resolve_right hc
   have:∃ i j,∃ (hi:i<L.length) (c:j<L.length),i∈K∧Adj L[i] L[j]∧j ∉ K:=by
    refine Classical.byContradiction fun l=>hc fun i j hi c a h=>Classical.byContradiction fun b=>l ⟨i,j,hi,c,a,h,b⟩
   obtain ⟨i,j,hi,c,a,h,b⟩:=this;obtain ⟨_,e,f,k⟩:=h;have o:K.length≤L.length:=Yy _ _ h1 (fun i hi=>(h3 i hi).1);refine ⟨K ++ [j],snoc_nodup h1 b,List.mem_append_left _ h2,fun q hq=>?_,Or.inl ψ⟩;rw [List.length_append,List.length_singleton];rcases List.mem_append.1 hq with hq | hq
   ·exact ⟨(h3 q hq).1,(h3 q hq).2.mono γ⟩
   ·simp at hq;subst hq;refine ⟨c, ?_⟩;rw [g.2 i q hi c e (fun e=>b (e ▸ a)) f k];exact (far_good f (d _ (Lm hi)) (h3 i a).2 γ).mono γ
theorem cons_good (d:Joined L) (c:L.Nodup) (g:L.length≤300) (a:∀ t∈L,(0≤t.1∧t.1≤8)∧(0≤t.2.1∧t.2.1≤8)∧(0≤t.2.2∧t.2.2≤3)) (e:Cons kd L M):∀ i,i<L.length→GoodM (M i) 48000:=fun i hi=>by
 obtain ⟨K,h1,h2,h3,h4⟩:=good_walk d.1 g a e L.length (Nr _);have f:K.length≤L.length:=Yy _ _ h1 (fun i hi=>(h3 i hi).1);have b:=h4.resolve_left γ;have:=Vq d c (· ∈ K) h2 b i hi;exact ((h3 i this).2).mono γ
abbrev EL:=List (E4×Value×Nat)
theorem blkE_same (h:r<w.heap.size) (o:Obj):(setBlock w r o).heap[r]?=some o:=by
 simp [setBlock,h]
theorem Vs (h:i≠r) (o:Obj):(setBlock w r o).heap[i]?=w.heap[i]?:=by
 simp [setBlock,Ne.symm h]
theorem blkE_grown (w:World) (r:Nat) (o:Obj):w.grownBy (setBlock w r o) (some r) :=
 ⟨rfl,rfl,rfl,by simp [setBlock],fun k _ a=>Vs (fun e=>a (by rw [e])) o⟩
def AllE (ls:EL) (seen:List Nat):Prop := ∀ x∈ls,x.2.2∈seen
def OneE (ls:EL) (seen:List Nat) (e:E4) (xv:Value) (st:Nat):Prop:=(e,xv,st)∈ls∧st ∉ seen
def StepE (w w':World) (rm r c:Nat) (ls:EL) (seen:List Nat) (st:Nat):Prop:=EM w' rm ls c∧w'.heap[r]?=some (.mapIter (some rm) c (seen ++ [st]).toArray c)∧w.grownBy w' (some r)
theorem wpList_next_em {j:Array Oper} {rest:List Oper} {o:Oper} {a:Act} {Q:Exit→Act→World→Prop} (hg:o.guard=none) (it:Operand) (u:o.op=Op.next it false) (d r c:Nat) (ls:EL) (b:List Nat)
  (p:a.eval it=.pointer (Az r)) (A:EM w d ls c) (hr:w.heap[r]?=some (.mapIter (some d) c b.toArray c)) (E:Good ls c) (q:r≠d)
  (h:AllE ls b→wpList Tryz.prog j Q rest (a.put o.dst (.tuple #[.bool false])) w)
  (i:∀ (e0 e1 e2 l:Int) (m:Value) (st:Nat) (w':World),OneE ls b (e0,e1,e2,l) m st→StepE w w' d r c ls b st→(Instr.entry (.pointer (Az r))).run Tryz.prog w'=.ok (.tuple #[.agg #[I e0,I e1,I e2,I l],m]) w' →
   wpList Tryz.prog j Q rest (a.put o.dst (.tuple #[.bool true,.agg #[I e0,I e1,I e2,I l],m])) w'):wpList Tryz.prog j Q (o :: rest) a w:=by
 refine wpList_plain hg fun J n=>?_;unfold Oper.wp
 have t:∀ x∈((ls.map toE).toArray).toList,x.born<c:=fun x g=>by
  simp only [List.mem_map] at g;obtain ⟨y,H,rfl⟩:=g;exact E.2.2 y H
 rcases run_next_at (P:=Tryz.prog) w o.type r d c c b.toArray _ c hr A t (Nr _) with ⟨h0,f⟩ | ⟨e,v,w1,C,f⟩
 ·simp [execOp,u,p,f,Result.andThen];refine n _ _ (h (fun x g=>?_));have:leftOf (ls.map toE).toArray b.toArray=#[]:=Array.eq_empty_of_size_eq_zero h0;unfold leftOf at this;rw [Array.filter_eq_empty_iff] at this;have:=this (toE x) (by rw [List.mem_toArray];exact List.mem_map.2 ⟨x,g,rfl⟩);simpa [toE] using this
 ·have z:∃ x∈ls,x.2.2 ∉ b∧toE x=e:=by
   unfold leftOf at v;simp only [Array.toList_filter,List.mem_filter,List.mem_map] at v;obtain ⟨⟨x,g,rfl⟩,hs⟩:=v;exact ⟨x,g,by simpa [toE] using hs,rfl⟩
  obtain ⟨x,g,D,rfl⟩:=z
  have B:EM w1 d ls c∧w1.heap[r]?=some (.mapIter (some d) c b.toArray c)∧w.grownBy w1 none:=by
   rcases C with rfl | rfl
   ·exact ⟨A,hr,Qv (Qd _)⟩
   ·exact ⟨A,hr,Qv (Qe (Qd _))⟩
  obtain ⟨G,r1,g1⟩:=B;simp [execOp,u,p,f,Result.andThen];obtain ⟨⟨e0,e1,e2,l⟩,m,st⟩:=x;refine n _ _ (i e0 e1 e2 l m st _ ⟨g,D⟩ ⟨?_, ?_, ?_⟩ ?_)
  ·exact (Vs (Ne.symm q) _).trans G
  ·have:=blkE_same (w:=w1) (Array.getElem?_eq_some_iff.1 r1).1 (.mapIter (some d) c (b ++ [st]).toArray c);exact this
  ·have g2:=blkE_grown w1 r (.mapIter (some d) c (b ++ [st]).toArray c);exact ⟨g2.os.trans g1.os,g2.tape.trans g1.tape,g2.output.trans g1.output,Nt g1.size g2.size,fun k F s=>(g2.block k (Nl F g1.size) s).trans (g1.block k F ν)⟩
  ·have e1:=run_entry_at (P:=Tryz.prog) (setBlock w1 r (.mapIter (some d) c (b ++ [st]).toArray c)) r d c b.toArray (ls.map toE).toArray c (toE ((e0,e1,e2,l),m,st)) (by
    have:=blkE_same (w:=w1) (Array.getElem?_eq_some_iff.1 r1).1 (.mapIter (some d) c (b ++ [st]).toArray c);rw [this];simp [toE]) ((Vs (Ne.symm q) _).trans G) (by simpa using List.mem_map.2 ⟨_,g,rfl⟩) (by
    have:=E.2.1;simpa [List.map_map,toE,Function.comp_def] using this)
   exact e1
def stampE (vis:EL):List Nat:=vis.map (fun x=>x.2.2)
theorem stampE_add (a:EL) (x:E4×Value×Nat):stampE (a ++ [x])=stampE a ++ [x.2.2]:=by simp [stampE]
theorem sub_lenE:∀ (a b:List Nat),a.Nodup→(∀ x∈a,x∈b)→a.length≤b.length
 | [],_,_,_=>Nat.zero_le _
 | x :: a,b,hn,hs=>by
  rw [List.nodup_cons] at hn;have:=sub_lenE a (b.erase x) hn.2 fun y c=>(List.mem_erase_of_ne (fun (e:y=x)=>hn.1 (e ▸ c))).2 (hs y (by simp [c]));rw [List.length_erase_of_mem (hs x ν)] at this;have:=List.length_pos_of_mem (hs x ν);rw [List.length_cons];omega
theorem keyE_inj {ls:EL} (h:(ls.map (fun x=>x.1)).Nodup):∀ {a b},a∈ls→b∈ls→a.1=b.1→a=b:=by
 induction ls with
 | nil=>intro a b f;cases f
 | cons x l ih =>
  intro a b f hb e;rw [List.map_cons,List.nodup_cons] at h;rcases List.mem_cons.1 f with e1 | d
  ·rcases List.mem_cons.1 hb with e2 | c
   ·rw [e1,e2]
   ·exact absurd (List.mem_map.2 ⟨b,c,by rw [← e,e1]⟩) h.1
  ·rcases List.mem_cons.1 hb with e2 | c
   ·exact absurd (List.mem_map.2 ⟨a,d,by rw [e,e2]⟩) h.1
   ·exact ih h.2 d c e
theorem stampE_inj {ls:EL} (h:(ls.map (fun x=>x.2.2)).Nodup):∀ {a b},a∈ls→b∈ls→a.2.2=b.2.2→a=b:=by
 induction ls with
 | nil=>intro a b f;cases f
 | cons x l ih =>
  intro a b f hb e;rw [List.map_cons,List.nodup_cons] at h;rcases List.mem_cons.1 f with e1 | d
  ·rcases List.mem_cons.1 hb with e2 | c
   ·rw [e1,e2]
   ·exact absurd (List.mem_map.2 ⟨b,c,by rw [← e,e1]⟩) h.1
  ·rcases List.mem_cons.1 hb with e2 | c
   ·exact absurd (List.mem_map.2 ⟨a,d,by rw [e,e2]⟩) h.1
   ·exact ih h.2 d c e
def VisE (ls vis:EL):Prop:=(∀ x∈vis,x∈ls)∧(stampE vis).Nodup
theorem VisE.nil (ls:EL):VisE ls []:=⟨fun x a=>(by cases a),List.nodup_nil⟩
theorem VisE.len {ls a:EL} (h:VisE ls a):a.length≤ls.length:=by
 have:=sub_lenE (stampE a) (stampE ls) h.2 (fun x b=>by
  obtain ⟨y,c,rfl⟩:=List.mem_map.1 b;exact List.mem_map.2 ⟨y,h.1 y c,rfl⟩)
 simpa [stampE] using this
theorem VisE.add {ls c:EL} {g:Value} {st:Nat} (h:VisE ls c) (f:OneE ls (stampE c) e g st):VisE ls (c ++ [(e,g,st)]):=by
 refine ⟨fun x d=>?_, ?_⟩
 ·rcases List.mem_append.1 d with d | d
  ·exact h.1 x d
  ·simp at d;rw [d];exact f.1
 ·rw [stampE_add,List.nodup_append];refine ⟨h.2,ν,fun a i b hb=>?_⟩;simp at hb;subst hb;exact fun e=>f.2 (e ▸ i)
theorem VisE.keys {ls d:EL} (h:VisE ls d) (g:Good ls c):(d.map (fun x=>x.1)).Nodup:=by
 have h2:d.Pairwise (fun a b=>a.2.2≠b.2.2):=List.pairwise_map.1 h.2;refine List.pairwise_map.2 (h2.imp_of_mem (fun {a b} i hb f e=>f ?_));rw [keyE_inj g.1 (h.1 a i) (h.1 b hb) e]
theorem VisE.all {ls a:EL} (h:VisE ls a) (d:Good ls c) (f:AllE ls (stampE a)) (x:E4×Value×Nat):x∈a↔x∈ls:=by
 refine ⟨h.1 x,fun b=>?_⟩;obtain ⟨y,g,e⟩:=List.mem_map.1 (f x b);rwa [← stampE_inj d.2.1 (h.1 y g) b e]
theorem lk_in {ls:EL} (a:Good ls c) {st:Nat} (h:(e,v,st)∈ls):lk ls e=some v:=by
 obtain ⟨j,b⟩:=List.getElem?_of_mem h;exact lk_at a.1 b rfl
def TGP (w:World) (base ra:Nat) (vt:Value) (G:T3→List Int):Prop :=
 ∃ ls clock,TEM w ra ls clock∧TGood ls clock∧(∀ e,Tlk ls e=none→G e=[]) ∧
  (∀ e v,Tlk ls e=some v→w.ownsRow base 3 1 v (G e).length ((G e).map (Value.int .i64))∧G e≠[]∧(vt.ownBlock=none∨v.ownBlock≠vt.ownBlock)) ∧
  (∀ e e' v v',e≠e'→Tlk ls e=some v→Tlk ls e'=some v'→v.ownBlock≠v'.ownBlock)
theorem TEM.lt {ls:List (T3×Value×Nat)} (h:TEM w r ls c):r<w.heap.size:=(Array.getElem?_eq_some_iff.1 h).1
theorem TEM.grown {ls:List (T3×Value×Nat)} (h:TEM w r ls c) (hg:w.grownBy w' row) (a:some r≠row):TEM w' r ls c:=(hg.block r h.lt a).trans h
theorem TGP.kept {a:Nat} {b:Value} {G:T3→List Int} (h:TGP w base a b G) (hb:Bl w w'):TGP w' base a b G:=by
 obtain ⟨ls,c,h1,h2,h3,h4,h5⟩:=h;refine ⟨ls,c,h1.grown (Qv hb) ν,h2,h3,fun e v f=>?_,h5⟩;obtain ⟨a1,d,a3⟩:=h4 e v f;exact ⟨Qh a1 hb,d,a3⟩
theorem TGP.entry {J:Value} {G:T3→List Int} (h:TGP w base k J G) (Q:k<base) (L:∀ g,J.ownBlock=some g→g<w.heap.size) (e:T3) (n:Int) :
  ∃ v0 st W2,(Instr.mapEntry 217 (.map (some k)) (Tek e)).run Tryz.prog w=.ok (.tuple #[v0,I st]) W2∧w.grownBy W2 (some k)∧W2.heap.size=w.heap.size∧W2.ownsRow base 3 1 v0 (G e).length ((G e).map (Value.int .i64)) ∧
   ∀ v' q,W2.grownBy q v0.ownBlock→q.ownsRow base 3 1 v' ((G e).length+1) ((G e).map (Value.int .i64) ++ [I n])→(v'.ownBlock=v0.ownBlock∨v'.ownBlock=some W2.heap.size) →
    ∃ W4,(Instr.entryStore 217 (.map (some k)) (I st) v').run Tryz.prog q=.ok () W4∧q.grownBy W4 (some k)∧TGP W4 base k J (fun j=>if j=e then G e ++ [n] else G j):=by
 obtain ⟨ls,c,h1,h2,h3,h4,h5⟩:=h;obtain ⟨st,f,c1,z,K⟩:=Tentry27 Tryz.underlying217 zero70 h1 h2 e;have hb:=h1;unfold TEM at hb;have t:=Yc hb (.map (f.map TtoE).toArray c1)
 have m:∀ {W:World} {v:Value} {n:Nat} {O:List Value},W.ownsRow base 3 1 v n O→v.ownBlock=none∨v.ownBlock≠some k:=fun {W v n O} P=>by
  cases F:v.ownBlock with
  | none=>exact Or.inl rfl
  | some g =>
   refine Or.inr (fun e1=>?_);have:=(P.lt g F).1;simp at e1;omega
 have B:(setBlock w k (.map (f.map TtoE).toArray c1)).ownsRow base 3 1 ((Tlk ls e).getD SN) (G e).length ((G e).map (Value.int .i64)):=by
  cases hl:Tlk ls e with
  | none =>
   rw [h3 e hl];exact World.ownsRow_nil _ _ _ _
  | some v =>
   have a:=(h4 e v hl).1;exact a.kept t (m a)
 have A:(setBlock w k (.map (f.map TtoE).toArray c1)).heap.size=w.heap.size:=by simp [setBlock]
 refine ⟨_,(st:Int),_,z,t,A,B,fun v' q y o r=>?_⟩;obtain ⟨C,M,g1,g2,_,g3⟩:=K v'
 have s:TEM q k f c1:=by
  have e0:TEM (setBlock w k (.map (f.map TtoE).toArray c1)) k f c1:=heap_setBlock_same hb _;refine e0.grown y ?_;rcases m B with e1 | e1
  ·rw [e1];simp
  ·exact fun e2=>e1 e2.symm
 have p:=Yc s (.map (C.map TtoE).toArray M);refine ⟨_,g3 q s,p,C,M,heap_setBlock_same s _,g1,fun j b=>?_,fun j v b=>?_,fun j H v N x b d=>?_⟩
 ·rw [g2 j] at b;by_cases e1:j=e
  ·rw [if_pos e1] at b
   cases b
  ·rw [if_neg e1] at b;dsimp only;rw [if_neg e1];exact h3 j b
 ·rw [g2 j] at b;by_cases e1:j=e
  ·dsimp only;rw [if_pos e1] at b ⊢;simp at b;subst b;refine ⟨?_,ν, ?_⟩
   ·have:=o.kept p (m o);simpa using this
   ·rcases r with hl | hl
    ·cases hlk:Tlk ls e with
     | none =>
      rw [hlk] at hl;have:v'.ownBlock=none:=by rw [hl];rfl
      obtain ⟨g,hg,_⟩:=Xu o γ;rw [hg] at this
      cases this
     | some v =>
      rw [hlk] at hl;rw [hl];exact (h4 e v hlk).2.2
    ·rw [hl]
     cases hvb:J.ownBlock with
     | none=>exact Or.inl rfl
     | some g =>
      have:=L g hvb;refine Or.inr (fun e2=>?_);simp at e2;omega
  ·dsimp only;rw [if_neg e1] at b ⊢;obtain ⟨a1,D,a3⟩:=h4 j v b;refine ⟨?_,D,a3⟩;have b1:=a1.kept t (m a1)
   have b2:q.ownsRow base 3 1 v (G j).length ((G j).map (Value.int .i64)):=by
    refine b1.kept y ?_
    cases hlk:Tlk ls e with
    | none =>
     obtain ⟨g,hg,_⟩:=Xu a1 (List.length_pos_iff.2 D);rw [hg];exact Or.inr δ2
    | some v0=>exact Or.inr (h5 j e v v0 e1 b hlk)
   exact b2.kept p (m b2)
 ·rw [g2 j] at b;rw [g2 H] at d
  have l:∀ i u,i≠e→Tlk ls i=some u→u.ownBlock≠v'.ownBlock:=fun i u hi F=>by
   obtain ⟨a1,D,_⟩:=h4 i u F;obtain ⟨g,hg,_,p⟩:=Xu a1 (List.length_pos_iff.2 D);rcases r with hl | hl
   ·cases hlk:Tlk ls e with
    | none =>
     rw [hlk] at hl;rw [hl,hg];simp [Value.ownBlock]
    | some v0 =>
     rw [hlk] at hl;rw [hl];exact h5 i e u v0 hi F hlk
   ·rw [hl,hg,A];intro e2;simp at e2;omega
  by_cases e1:j=e
  ·rw [if_pos e1] at b;rw [if_neg (fun e2=>x (e1.trans e2.symm))] at d;simp at b;subst b;exact fun e2=>l H N (fun E=>x (e1.trans E.symm)) d e2.symm
  ·rw [if_neg e1] at b;by_cases E:H=e
   ·rw [if_pos E] at d;simp at d;subst d;exact l j v e1 b
   ·rw [if_neg E] at d;exact h5 j H v N x b d
end Go.Proofs.YtbjmnlefkbhbdaaGreatDoor
