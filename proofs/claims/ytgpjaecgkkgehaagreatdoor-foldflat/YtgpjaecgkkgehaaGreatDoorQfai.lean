/- A part of the proof of foldFlat_holds. -/
import Derived.Test.YtgpjaecgkkgehaaGreatDoorQfah
import Derived.Test.YtgpjaecgkkgehaaGreatDoorQfad
import Derived.Maps.AppendAt
import Derived.Test.YtgpjaecgkkgehaaGreatDoorQfag
import Derived.Test.YtgpjaecgkkgehaaGreatDoorQfab
namespace Go.Proofs.YtgpjaecgkkgehaaGreatDoor
open Go.RowKit
def hasT (t:Int×Int×Int) (e:Int×Int×Int×Int):Bool:=hasB t.1 t.2.1 t.2.2 e.1 e.2.1 e.2.2.1 e.2.2.2
def edg (t:Int×Int×Int) (i:Nat):Int×Int×Int×Int :=
 if i=0 then (ue0 t.1 t.2.1 t.2.2,ue1 t.1 t.2.1 t.2.2,ue2 t.1 t.2.1 t.2.2,ue3 t.1 t.2.1 t.2.2)
 else if i=1 then (ue4 t.1 t.2.1 t.2.2,ue5 t.1 t.2.1 t.2.2,ue6 t.1 t.2.1 t.2.2,ue7 t.1 t.2.1 t.2.2)
 else (ue8 t.1 t.2.1 t.2.2,ue9 t.1 t.2.1 t.2.2,ue10 t.1 t.2.1 t.2.2,ue11 t.1 t.2.1 t.2.2)
def acr (t:Int×Int×Int) (e:Int×Int×Int×Int):Int×Int×Int :=
 (acX t.1 t.2.1 t.2.2 e.1 e.2.1 e.2.2.1 e.2.2.2,acY t.1 t.2.1 t.2.2 e.1 e.2.1 e.2.2.1 e.2.2.2,acK t.1 t.2.1 t.2.2 e.1 e.2.1 e.2.2.1 e.2.2.2)
def Kd (t:Int×Int×Int):Prop:=0≤t.2.2∧t.2.2≤3
theorem edg_own (t:Int×Int×Int) (i:Nat):hasT t (edg t i)=true:=by
 unfold edg
 split
 ·simp [hasT,hasB,e0,sameB]
 ·split
  ·simp [hasT,hasB,e1,sameB]
  ·simp [hasT,hasB,e2,sameB]
theorem hasT_edg {t:Int×Int×Int} {e:Int×Int×Int×Int} (h:hasT t e=true):∃ i,i<3∧edg t i=e:=by
 unfold hasT at h
 rw [hasB_or] at h
 obtain ⟨p,q,r,s⟩:=e
 rcases h with h | h | h
 ·exact ⟨0,by omega,by simpa [edg,e0,sameB] using h⟩
 ·exact ⟨1,by omega,by simpa [edg,e1,sameB] using h⟩
 ·exact ⟨2,by omega,by simpa [edg,e2,sameB] using h⟩
def Adj (t u:Int×Int×Int):Prop:=u≠t∧∃ e,hasT t e=true∧hasT u e=true
theorem Adj.symm {t u:Int×Int×Int} (h:Adj t u):Adj u t:=⟨fun e=>h.1 e.symm,h.2.imp fun _ he=>⟨he.2,he.1⟩⟩
theorem acr_is {t u:Int×Int×Int} {e:Int×Int×Int×Int} (ht:Kd t) (hu:Kd u) (h1:hasT t e=true) (h2:hasT u e=true) (hne:u≠t):u=acr t e:=by
 obtain ⟨x,y,k⟩:=t
 obtain ⟨X,Y,K⟩:=u
 obtain ⟨p,q,r,s⟩:=e
 have:=across_is x y k p q r s (X - x) (Y - y) K ht.1 ht.2 hu.1 hu.2 h1 ⟨by rw [show x+(X - x)=X by omega,show y+(Y - y)=Y by omega];exact h2,fun hh=>hne (by obtain ⟨a,b,c⟩:=hh;simp;omega)⟩
 simp only [acr,Prod.mk.injEq]
 omega
theorem acr_adj {t:Int×Int×Int} {e:Int×Int×Int×Int} (ht:Kd t) (h1:hasT t e=true):hasT (acr t e) e=true∧acr t e≠t∧Kd (acr t e):=by
 obtain ⟨x,y,k⟩:=t
 obtain ⟨p,q,r,s⟩:=e
 obtain ⟨dx,dy,l,_,_,hl,ho⟩:=across_has x y k p q r s ht.1 ht.2 h1
 have h:=across_is x y k p q r s dx dy l ht.1 ht.2 hl.1 hl.2 h1 ho
 have e:acr (x,y,k) (p,q,r,s)=(x+dx,y+dy,l):=by simp only [acr,Prod.mk.injEq];omega
 rw [e]
 exact ⟨ho.1,fun hh=>ho.2 (by simpa using hh),hl⟩
theorem adj_iff {t u:Int×Int×Int} (ht:Kd t) (hu:Kd u):Adj t u↔∃ i,i<3∧u=acr t (edg t i):=by
 constructor
 ·rintro ⟨hne,e,h1,h2⟩
  obtain ⟨i,hi,rfl⟩:=hasT_edg h1
  exact ⟨i,hi,acr_is ht hu h1 h2 hne⟩
 ·rintro ⟨i,_,rfl⟩
  have h:=acr_adj ht (edg_own t i)
  exact ⟨h.2.1,_,edg_own t i,h.1⟩
def Reach (l:List (Int×Int×Int)) (t u:Int×Int×Int):Prop:=t∈l∧∀ p:Int×Int×Int→Prop,p t→(∀ a b,p a→b∈l→Adj a b→p b)→p u
theorem Reach.here {l:List (Int×Int×Int)} {t:Int×Int×Int} (h:t∈l):Reach l t t:=⟨h,fun _ k _=>k⟩
theorem Reach.step {l:List (Int×Int×Int)} {t u v:Int×Int×Int} (h:Reach l t u) (hv:v∈l) (ha:Adj u v):Reach l t v:=⟨h.1,fun p k s=>s _ _ (h.2 p k s) hv ha⟩
theorem Reach.ind {l:List (Int×Int×Int)} {t:Int×Int×Int} {motive:∀ u,Reach l t u→Prop} (here:∀ h:t∈l,motive t (Reach.here h))
  (step:∀ {u v} (h:Reach l t u) (hv:v∈l) (ha:Adj u v),motive u h→motive v (Reach.step h hv ha)) {u:Int×Int×Int} (h:Reach l t u):motive u h:=by
 obtain ⟨_,m⟩:=h.2 (fun x=>∃ k:Reach l t x,motive x k) ⟨Reach.here h.1,here h.1⟩ (fun _ _ ⟨_,m⟩ hb hab=>⟨_,step _ hb hab m⟩)
 exact m
theorem Reach.mem {l:List (Int×Int×Int)} {t u:Int×Int×Int} (h:Reach l t u):t∈l∧u∈l:=by
 induction h using Reach.ind with
 | here h=>exact ⟨h,h⟩
 | step _ hv _ ih=>exact ⟨ih.1,hv⟩
theorem Reach.trans {l:List (Int×Int×Int)} {t u v:Int×Int×Int} (h:Reach l t u) (k:Reach l u v):Reach l t v:=by
 induction k using Reach.ind with
 | here _=>exact h
 | step _ hv ha ih=>exact ih.step hv ha
theorem Reach.symm {l:List (Int×Int×Int)} {t u:Int×Int×Int} (h:Reach l t u):Reach l u t:=by
 induction h using Reach.ind with
 | here h=>exact .here h
 | step h hv ha ih=>exact ((Reach.here hv).step h.mem.2 ha.symm).trans ih
theorem nodup_inj {l:List (Int×Int×Int)} (hn:l.Nodup) {i j:Nat} (hi:i<l.length) (hj:j<l.length) (e:l[i]=l[j]):i=j:=by
 have hp:=List.pairwise_iff_getElem.1 hn
 rcases Nat.lt_trichotomy i j with h | h | h
 ·exact absurd e (hp i j hi hj h)
 ·exact h
 ·exact absurd e.symm (hp j i hj hi h)
def Joined (l:List (Int×Int×Int)):Prop := ∃ h:0<l.length,∀ i (hi:i<l.length),Reach l l[0] l[i]
theorem who_joined {l:List (Int×Int×Int)} (hn:l.Nodup) (h0:0<l.length) (who:Nat→Nat)
  (h1:∀ i (hi:i<l.length),who i≤i∧∃ hw:who i<l.length,Reach l l[i] l[who i])
  (h2:∀ i j (hi:i<l.length) (hj:j<l.length),Adj l[i] l[j]→who i≤who j) :
  (∀ i,i<l.length→who i=0)↔Joined l:=by
 constructor
 ·intro h
  refine ⟨h0,fun i hi=>?_⟩
  obtain ⟨_,_,hr⟩:=h1 i hi
  simp only [h i hi] at hr
  exact hr.symm
 ·rintro ⟨_,h⟩ i hi
  have key:∀ t,Reach l l[0] t→∀ j (hj:j<l.length),l[j]=t→who j=0:=by
   intro t ht
   generalize hz:l[0]=z at ht
   induction ht using Reach.ind with
   | here hm =>
    intro j hj e
    have:j=0:=nodup_inj hn hj h0 (e.trans hz.symm)
    have:=(h1 j hj).1
    omega
   | @step u v hr hv ha ih =>
    intro j hj e
    obtain ⟨i',hi',e'⟩:=List.getElem_of_mem hr.mem.2
    have w0:=ih i' hi' e'
    have:=h2 j i' hj hi' (by rw [e,e'];exact ha.symm)
    omega
  exact key _ (h i hi) i hi rfl
theorem reached_joined {l:List (Int×Int×Int)} (h0:0<l.length) (R:Nat→Prop) (hz:R 0)
  (h1:∀ i (hi:i<l.length),R i→Reach l l[0] l[i])
  (h2:∀ i j (hi:i<l.length) (hj:j<l.length),R i→Adj l[i] l[j]→R j) (hn:l.Nodup) :
  (∀ i,i<l.length→R i)↔Joined l:=by
 constructor
 ·exact fun h=>⟨h0,fun i hi=>h1 i hi (h i hi)⟩
 ·rintro ⟨_,h⟩ i hi
  have key:∀ t,Reach l l[0] t→∀ j (hj:j<l.length),l[j]=t→R j:=by
   intro t ht
   generalize hz':l[0]=z at ht
   induction ht using Reach.ind with
   | here hm =>
    intro j hj e
    have:j=0:=nodup_inj hn hj h0 (e.trans hz'.symm)
    exact this ▸ hz
   | @step u v hr hv ha ih =>
    intro j hj e
    obtain ⟨i',hi',e'⟩:=List.getElem_of_mem hr.mem.2
    exact h2 i' j hi' hj (ih i' hi' e') (by rw [e,e'];exact ha)
  exact key _ (h i hi) i hi rfl
theorem tk_nodup (zs:List Int) (W x y:Nat):∀ n,(tk zs W x y n).Nodup
 | 0=>by simp [tk]
 | n+1=>by
  cases h:bitAt zs W x y n
  ·rw [tk_no h];exact tk_nodup zs W x y n
  ·rw [tk_yes h,List.nodup_append]
   refine ⟨tk_nodup zs W x y n,by simp, ?_⟩
   intro a ha b hb
   simp [tk] at ha hb
   obtain ⟨k,⟨hk,_⟩,rfl⟩:=ha
   subst hb
   simp
   omega
theorem tx_nodup (zs:List Int) (W y:Nat):∀ n,(tx zs W y n).Nodup
 | 0=>by simp [tx]
 | n+1=>by
  rw [tx_succ,List.nodup_append]
  refine ⟨tx_nodup zs W y n,tk_nodup _ _ _ _ _, ?_⟩
  intro a ha b hb
  simp only [tx,tk,List.mem_flatMap,List.mem_map,List.mem_filter,List.mem_range] at ha hb
  obtain ⟨x,hx,k,_,rfl⟩:=ha
  obtain ⟨k',_,rfl⟩:=hb
  simp
  omega
theorem ty_nodup (zs:List Int) (W:Nat):∀ n,(ty zs W n).Nodup
 | 0=>by simp [ty]
 | n+1=>by
  rw [ty_succ,List.nodup_append]
  refine ⟨ty_nodup zs W n,tx_nodup _ _ _ _, ?_⟩
  intro a ha b hb
  simp only [ty,tx,tk,List.mem_flatMap,List.mem_map,List.mem_filter,List.mem_range] at ha hb
  obtain ⟨y,hy,x,hx,k,_,rfl⟩:=ha
  obtain ⟨x',_,k',_,rfl⟩:=hb
  simp
  omega
open Go.RowKit Go.ChangeMaps
def gix (l:List (Int×Int×Int)) (e:Int×Int×Int×Int):List Int:=((List.range l.length).filter fun i=>hasT (l.getD i (0,0,0)) e).map fun (i:Nat)=>(i:Int)
theorem gix_nil (e:Int×Int×Int×Int):gix [] e=[]:=rfl
theorem gix_snoc (l:List (Int×Int×Int)) (t:Int×Int×Int) (e:Int×Int×Int×Int):gix (l ++ [t]) e=gix l e ++ if hasT t e=true then [(l.length:Int)] else []:=by
 unfold gix
 rw [List.length_append,List.length_singleton,List.range_succ,List.filter_append,List.map_append]
 congr 1
 ·congr 1
  apply List.filter_congr
  intro i hi
  have hi':i<l.length:=by simpa using hi
  simp [hi',List.getElem_append_left,Nat.lt_succ_of_lt hi']
 ·have e1:(l ++ [t]).getD l.length (0,0,0)=t:=by simp
  cases h:hasT t e
  ·simp [h]
  ·simp [h]
theorem gix_len (l:List (Int×Int×Int)) (e:Int×Int×Int×Int):(gix l e).length≤l.length:=by
 unfold gix
 rw [List.length_map]
 exact Nat.le_trans (List.length_filter_le _ _) (by simp)
theorem gix_mem {l:List (Int×Int×Int)} {e:Int×Int×Int×Int} {j:Int}:j∈gix l e↔∃ i:Nat,∃ h:i<l.length,j=(i:Int)∧hasT l[i] e=true:=by
 unfold gix
 simp only [List.mem_map,List.mem_filter,List.mem_range]
 constructor
 ·rintro ⟨i,⟨hi,ht⟩,rfl⟩
  exact ⟨i,hi,rfl,by simpa [hi] using ht⟩
 ·rintro ⟨i,hi,rfl,ht⟩
  exact ⟨i,⟨hi,by simpa [hi] using ht⟩,rfl⟩
def GP (w:World) (base ra:Nat) (vt:Value) (G:Int×Int×Int×Int→List Int):Prop :=
 ∃ ls clock,EM w ra ls clock∧Good ls clock∧(∀ e,lk ls e=none→G e=[]) ∧
  (∀ e v,lk ls e=some v→w.ownsRow base 3 1 v (G e).length ((G e).map (Value.int .i64))∧G e≠[]∧(vt.ownBlock=none∨v.ownBlock≠vt.ownBlock)) ∧
  (∀ e e' v v',e≠e'→lk ls e=some v→lk ls e'=some v'→v.ownBlock≠v'.ownBlock)
theorem own_some {w:World} {base:Nat} {e:TypeId} {size:Nat} {v:Value} {n:Nat} {xs:List Value} (h:w.ownsRow base e size v n xs) (hn:0<n):∃ g,v.ownBlock=some g∧base≤g∧g<w.heap.size:=by
 rcases h.2 with ⟨rfl,h0⟩ | ⟨g,cap,cur,rfl,h2,h3,h4⟩
 ·omega
 ·refine ⟨g,by simp [Value.ownBlock],h2, ?_⟩
  exact (Array.getElem?_eq_some_iff.1 h3).1
theorem own_lt {w:World} {base:Nat} {e:TypeId} {size:Nat} {v:Value} {n:Nat} {xs:List Value} (h:w.ownsRow base e size v n xs):∀ g,v.ownBlock=some g→base≤g∧g<w.heap.size:=fun g hg=>h.lt g hg
theorem EM.lt {w:World} {r:Nat} {ls:List ((Int×Int×Int×Int)×Value×Nat)} {c:Nat} (h:EM w r ls c):r<w.heap.size:=(Array.getElem?_eq_some_iff.1 h).1
theorem EM.grown {w w':World} {r:Nat} {ls:List ((Int×Int×Int×Int)×Value×Nat)} {c:Nat} {row:Option Nat} (h:EM w r ls c) (hg:w.grownBy w' row) (hne:some r≠row):EM w' r ls c:=(hg.block r h.lt hne).trans h
theorem bl_grown {w v:World} (h:Below w.heap.size w v):w.grownBy v none:=⟨h.os,h.tape,h.output,h.size,fun k hk _=>h.block k hk⟩
theorem GP.kept {w w':World} {base ra:Nat} {vt:Value} {G:Int×Int×Int×Int→List Int} (h:GP w base ra vt G) (hb:Below w.heap.size w w'):GP w' base ra vt G:=by
 obtain ⟨ls,c,h1,h2,h3,h4,h5⟩:=h
 refine ⟨ls,c,h1.grown (bl_grown hb) (by simp),h2,h3,fun e v he=>?_,h5⟩
 obtain ⟨a1,a2,a3⟩:=h4 e v he
 exact ⟨own_below a1 hb,a2,a3⟩
theorem GP.other {w w':World} {base ra:Nat} {vt vt':Value} {G:Int×Int×Int×Int→List Int} (h:GP w base ra vt G) (hra:ra<base) (hg:w.grownBy w' vt.ownBlock) (hvt:∀ g,vt.ownBlock=some g→base≤g) (hl:vt'.ownBlock=vt.ownBlock∨vt'.ownBlock=some w.heap.size):GP w' base ra vt' G:=by
 obtain ⟨ls,c,h1,h2,h3,h4,h5⟩:=h
 refine ⟨ls,c,h1.grown hg (fun e=>by have:=hvt _ e.symm;omega),h2,h3,fun e v he=>?_,h5⟩
 obtain ⟨a1,a2,a3⟩:=h4 e v he
 obtain ⟨g,hg1,hg2,hg3⟩:=own_some a1 (List.length_pos_iff.2 a2)
 refine ⟨a1.kept hg ?_,a2, ?_⟩
 ·rcases a3 with a3 | a3
  ·rw [hg1,a3]
   exact Or.inr (by simp)
  ·exact Or.inr a3
 ·rcases hl with hl | hl
  ·rw [hl]
   exact a3
  ·rw [hl,hg1]
   refine Or.inr (fun e=>?_)
   simp at e
   omega
theorem zero70 (w:World):(zeroValue 22).run Tryz.prog w=.ok (.slice none 0 0) w:=by kernel_rfl
theorem GP.entry {w:World} {base ra:Nat} {vt:Value} {G:Int×Int×Int×Int→List Int} (h:GP w base ra vt G) (hra:ra<base) (hvt:∀ g,vt.ownBlock=some g→g<w.heap.size) (e:Int×Int×Int×Int) (n:Int) :
  ∃ v0 st W2,(Instr.mapEntry 65 (.map (some ra)) (ek e)).run Tryz.prog w=.ok (.tuple #[v0,.int .i64 st]) W2∧w.grownBy W2 (some ra)∧W2.heap.size=w.heap.size∧W2.ownsRow base 3 1 v0 (G e).length ((G e).map (Value.int .i64)) ∧
   ∀ v' W3,W2.grownBy W3 v0.ownBlock→W3.ownsRow base 3 1 v' ((G e).length+1) ((G e).map (Value.int .i64) ++ [.int .i64 n])→(v'.ownBlock=v0.ownBlock∨v'.ownBlock=some W2.heap.size) →
    ∃ W4,(Instr.entryStore 65 (.map (some ra)) (.int .i64 st) v').run Tryz.prog W3=.ok () W4∧W3.grownBy W4 (some ra)∧GP W4 base ra vt (fun j=>if j=e then G e ++ [n] else G j):=by
 obtain ⟨ls,c,h1,h2,h3,h4,h5⟩:=h
 obtain ⟨st,ls1,c1,hrun,hst⟩:=entry27 Tryz.underlying65 zero70 h1 h2 e
 have hb:=h1
 unfold EM at hb
 have hg1:=grown_set hb (.map (ls1.map toE).toArray c1)
 have hne:∀ {W:World} {v:Value} {n:Nat} {xs:List Value},W.ownsRow base 3 1 v n xs→v.ownBlock=none∨v.ownBlock≠some ra:=fun {W v n xs} ho=>by
  cases hu:v.ownBlock with
  | none=>exact Or.inl rfl
  | some g =>
   refine Or.inr (fun e1=>?_)
   have:=(ho.lt g hu).1
   simp at e1
   omega
 have hv0:(setBlock w ra (.map (ls1.map toE).toArray c1)).ownsRow base 3 1 ((lk ls e).getD (.slice none 0 0)) (G e).length ((G e).map (Value.int .i64)):=by
  cases hl:lk ls e with
  | none =>
   rw [h3 e hl]
   exact World.ownsRow_nil _ _ _ _
  | some v =>
   have a:=(h4 e v hl).1
   exact a.kept hg1 (hne a)
 have hsz:(setBlock w ra (.map (ls1.map toE).toArray c1)).heap.size=w.heap.size:=by simp [setBlock]
 refine ⟨_,(st:Int),_,hrun,hg1,hsz,hv0,fun v' W3 hg2 hown hloc=>?_⟩
 obtain ⟨ls',c',g1,g2,_,g3⟩:=hst v'
 have hem:EM W3 ra ls1 c1:=by
  have e0:EM (setBlock w ra (.map (ls1.map toE).toArray c1)) ra ls1 c1:=heap_setBlock_same hb _
  refine e0.grown hg2 ?_
  rcases hne hv0 with e1 | e1
  ·rw [e1]
   simp
  ·exact fun e2=>e1 e2.symm
 have hg3:=grown_set hem (.map (ls'.map toE).toArray c')
 refine ⟨_,g3 W3 hem,hg3,ls',c',heap_setBlock_same hem _,g1,fun j hj=>?_,fun j v hj=>?_,fun j j' v v2 hjj hj hj'=>?_⟩
 ·rw [g2 j] at hj
  by_cases e1:j=e
  ·rw [if_pos e1] at hj
   cases hj
  ·rw [if_neg e1] at hj
   dsimp only
   rw [if_neg e1]
   exact h3 j hj
 ·rw [g2 j] at hj
  by_cases e1:j=e
  ·dsimp only
   rw [if_pos e1] at hj ⊢
   simp at hj
   subst hj
   refine ⟨?_,by simp, ?_⟩
   ·have:=hown.kept hg3 (hne hown)
    simpa using this
   ·rcases hloc with hl | hl
    ·cases hlk:lk ls e with
     | none =>
      rw [hlk] at hl
      have:v'.ownBlock=none:=by rw [hl];rfl
      obtain ⟨g,hg,_⟩:=own_some hown (by omega)
      rw [hg] at this
      cases this
     | some v =>
      rw [hlk] at hl
      rw [hl]
      exact (h4 e v hlk).2.2
    ·rw [hl]
     cases hvb:vt.ownBlock with
     | none=>exact Or.inl rfl
     | some g =>
      have:=hvt g hvb
      refine Or.inr (fun e2=>?_)
      simp at e2
      omega
  ·dsimp only
   rw [if_neg e1] at hj ⊢
   obtain ⟨a1,a2,a3⟩:=h4 j v hj
   refine ⟨?_,a2,a3⟩
   have b1:=a1.kept hg1 (hne a1)
   have b2:W3.ownsRow base 3 1 v (G j).length ((G j).map (Value.int .i64)):=by
    refine b1.kept hg2 ?_
    cases hlk:lk ls e with
    | none =>
     obtain ⟨g,hg,_⟩:=own_some a1 (List.length_pos_iff.2 a2)
     rw [hg]
     exact Or.inr (by simp [Value.ownBlock])
    | some v0=>exact Or.inr (h5 j e v v0 e1 hj hlk)
   exact b2.kept hg3 (hne b2)
 ·rw [g2 j] at hj
  rw [g2 j'] at hj'
  have fresh:∀ i u,i≠e→lk ls i=some u→u.ownBlock≠v'.ownBlock:=fun i u hi hu=>by
   obtain ⟨a1,a2,_⟩:=h4 i u hu
   obtain ⟨g,hg,_,hg3⟩:=own_some a1 (List.length_pos_iff.2 a2)
   rcases hloc with hl | hl
   ·cases hlk:lk ls e with
    | none =>
     rw [hlk] at hl
     rw [hl,hg]
     simp [Value.ownBlock]
    | some v0 =>
     rw [hlk] at hl
     rw [hl]
     exact h5 i e u v0 hi hu hlk
   ·rw [hl,hg,hsz]
    intro e2
    simp at e2
    omega
  by_cases e1:j=e
  ·rw [if_pos e1] at hj
   rw [if_neg (fun e2=>hjj (e1.trans e2.symm))] at hj'
   simp at hj
   subst hj
   exact fun e2=>fresh j' v2 (fun e3=>hjj (e1.trans e3.symm)) hj' e2.symm
  ·rw [if_neg e1] at hj
   by_cases e3:j'=e
   ·rw [if_pos e3] at hj'
    simp at hj'
    subst hj'
    exact fresh j v e1 hj
   ·rw [if_neg e3] at hj'
    exact h5 j j' v v2 hjj hj hj'
open Go.RowKit
set_option maxHeartbeats 1600000 in
theorem paperEdges_any (x y k:Int) (w:World) (h:triB x y k=true) (hs:Steps w) :
  Calls Tryz.prog 152 #[.agg #[.int .i64 x,.int .i64 y,.int .i64 k]] w fun e w'=>e=.returned (.agg #[.int .i64 (ue0 x y k),.int .i64 (ue1 x y k),.int .i64 (ue2 x y k),.int .i64 (ue3 x y k),.int .i64 (ue4 x y k),.int .i64 (ue5 x y k),.int .i64 (ue6 x y k),.int .i64 (ue7 x y k),.int .i64 (ue8 x y k),.int .i64 (ue9 x y k),.int .i64 (ue10 x y k),.int .i64 (ue11 x y k)])∧Below w.heap.size w w':=by
 have HS:Hid (Steps w):=hs
 clear hs
 go_enter Tryz.func152,Tryz.ntmps152
 go_wp2_with (go_at_call 185;refine (Edges_yes _ _ _ _ h (HS.out.kept (bl_alloc (bl_alloc (bl_refl _))))).mono ?_;rintro e w2 ⟨rfl,hb⟩;have r0:w2.cell? ⟨w.heap.size+1,0,none⟩=some (.int .i64 0):=cl_kept hb (by first | (simp [go_sem];done) | (simp [go_sem,World.cell?_alloc_past];done));have f0':w2.frozen? ⟨w.heap.size+1,0,none⟩=false:=(hb.frozen (p:=⟨w.heap.size+1,0,none⟩) (by simp <;> omega)).trans (by simp [go_sem]);have r1:w2.cell? ⟨w.heap.size+1,1,none⟩=some (.int .i64 0):=cl_kept hb (by first | (simp [go_sem];done) | (simp [go_sem,World.cell?_alloc_past];done));have f1':w2.frozen? ⟨w.heap.size+1,1,none⟩=false:=(hb.frozen (p:=⟨w.heap.size+1,1,none⟩) (by simp <;> omega)).trans (by simp [go_sem]);have r2:w2.cell? ⟨w.heap.size+1,2,none⟩=some (.int .i64 0):=cl_kept hb (by first | (simp [go_sem];done) | (simp [go_sem,World.cell?_alloc_past];done));have f2':w2.frozen? ⟨w.heap.size+1,2,none⟩=false:=(hb.frozen (p:=⟨w.heap.size+1,2,none⟩) (by simp <;> omega)).trans (by simp [go_sem]);have r3:w2.cell? ⟨w.heap.size+1,3,none⟩=some (.int .i64 0):=cl_kept hb (by first | (simp [go_sem];done) | (simp [go_sem,World.cell?_alloc_past];done));have f3':w2.frozen? ⟨w.heap.size+1,3,none⟩=false:=(hb.frozen (p:=⟨w.heap.size+1,3,none⟩) (by simp <;> omega)).trans (by simp [go_sem]);have r4:w2.cell? ⟨w.heap.size+1,4,none⟩=some (.int .i64 0):=cl_kept hb (by first | (simp [go_sem];done) | (simp [go_sem,World.cell?_alloc_past];done));have f4':w2.frozen? ⟨w.heap.size+1,4,none⟩=false:=(hb.frozen (p:=⟨w.heap.size+1,4,none⟩) (by simp <;> omega)).trans (by simp [go_sem]);have r5:w2.cell? ⟨w.heap.size+1,5,none⟩=some (.int .i64 0):=cl_kept hb (by first | (simp [go_sem];done) | (simp [go_sem,World.cell?_alloc_past];done));have f5':w2.frozen? ⟨w.heap.size+1,5,none⟩=false:=(hb.frozen (p:=⟨w.heap.size+1,5,none⟩) (by simp <;> omega)).trans (by simp [go_sem]);have r6:w2.cell? ⟨w.heap.size+1,6,none⟩=some (.int .i64 0):=cl_kept hb (by first | (simp [go_sem];done) | (simp [go_sem,World.cell?_alloc_past];done));have f6':w2.frozen? ⟨w.heap.size+1,6,none⟩=false:=(hb.frozen (p:=⟨w.heap.size+1,6,none⟩) (by simp <;> omega)).trans (by simp [go_sem]);have r7:w2.cell? ⟨w.heap.size+1,7,none⟩=some (.int .i64 0):=cl_kept hb (by first | (simp [go_sem];done) | (simp [go_sem,World.cell?_alloc_past];done));have f7':w2.frozen? ⟨w.heap.size+1,7,none⟩=false:=(hb.frozen (p:=⟨w.heap.size+1,7,none⟩) (by simp <;> omega)).trans (by simp [go_sem]);have r8:w2.cell? ⟨w.heap.size+1,8,none⟩=some (.int .i64 0):=cl_kept hb (by first | (simp [go_sem];done) | (simp [go_sem,World.cell?_alloc_past];done));have f8':w2.frozen? ⟨w.heap.size+1,8,none⟩=false:=(hb.frozen (p:=⟨w.heap.size+1,8,none⟩) (by simp <;> omega)).trans (by simp [go_sem]);have r9:w2.cell? ⟨w.heap.size+1,9,none⟩=some (.int .i64 0):=cl_kept hb (by first | (simp [go_sem];done) | (simp [go_sem,World.cell?_alloc_past];done));have f9':w2.frozen? ⟨w.heap.size+1,9,none⟩=false:=(hb.frozen (p:=⟨w.heap.size+1,9,none⟩) (by simp <;> omega)).trans (by simp [go_sem]);have r10:w2.cell? ⟨w.heap.size+1,10,none⟩=some (.int .i64 0):=cl_kept hb (by first | (simp [go_sem];done) | (simp [go_sem,World.cell?_alloc_past];done));have f10':w2.frozen? ⟨w.heap.size+1,10,none⟩=false:=(hb.frozen (p:=⟨w.heap.size+1,10,none⟩) (by simp <;> omega)).trans (by simp [go_sem]);have r11:w2.cell? ⟨w.heap.size+1,11,none⟩=some (.int .i64 0):=cl_kept hb (by first | (simp [go_sem];done) | (simp [go_sem,World.cell?_alloc_past];done));have f11':w2.frozen? ⟨w.heap.size+1,11,none⟩=false:=(hb.frozen (p:=⟨w.heap.size+1,11,none⟩) (by simp <;> omega)).trans (by simp [go_sem]);have zz0:w.heap.size+1<w2.heap.size:=World.block_lt_of_cell? (w:=w2) (a:=⟨w.heap.size+1,0,none⟩) r0;have zz1:w.heap.size+1<w2.heap.size+1:=(by omega);have zz2:w.heap.size+1<w2.heap.size+1+1:=(by omega);have zz3:w.heap.size+1<w2.heap.size+1+1+1:=(by omega);have HB:Hid (Below w.heap.size w w2):=bl_via (bl_alloc (bl_alloc (bl_refl _))) hb;clear hb)
 refine bodyPost_ret (v:=.agg #[.int .i64 (ue0 x y k),.int .i64 (ue1 x y k),.int .i64 (ue2 x y k),.int .i64 (ue3 x y k),.int .i64 (ue4 x y k),.int .i64 (ue5 x y k),.int .i64 (ue6 x y k),.int .i64 (ue7 x y k),.int .i64 (ue8 x y k),.int .i64 (ue9 x y k),.int .i64 (ue10 x y k),.int .i64 (ue11 x y k)]) ?_ rfl ⟨rfl, ?_⟩
 ·first | (simp [results,Tryz.results152,go_sem, *];done) | (simp [results,Tryz.results152,go_sem,World.cell?_alloc_past, *];done)
 ·with_reducible repeat' (first | exact HB.out | refine bl_set ?_ ?_ | refine bl_alloc ?_ | refine bl_drew ?_)
  all_goals (first | omega | (simp;done) | (simp;omega))
set_option maxHeartbeats 1600000 in
theorem lay_bad (W H:Int) (a:Option Addr) (cap:Nat) (zs:List Int) (c:Value) (w:World) (hr:Row w a zs) (hc:cellsB W H zs=false) :
  Calls Tryz.prog 65 #[.agg #[.int .i64 W,.int .i64 H,.slice a zs.length cap,c]] w fun e w'=>e=.returned (.tuple #[.agg #[.slice none 0 0,.map none,.map none],.bool false])∧Below w.heap.size w w':=by
 have HR:Hid (Row w a zs):=hr
 clear hr
 cases hW:sideB W
 ·go_enter Tryz.func65,Tryz.ntmps65
  go_wp2_with (go_at_call 97;refine (maySide_any _ _).mono ?_;rintro e w' ⟨rfl,rfl⟩)
  refine bodyPost_ret (v:=.tuple #[.agg #[.slice none 0 0,.map none,.map none],.bool false]) ?_ rfl ⟨rfl, ?_⟩
  ·simp [results,Tryz.results65,go_sem]
  ·with_reducible repeat' (first | exact bl_refl _ | refine bl_alloc ?_)
 cases hH:sideB H
 ·go_enter Tryz.func65,Tryz.ntmps65
  go_wp2_with (go_at_call 97;refine (maySide_any _ _).mono ?_;rintro e w' ⟨rfl,rfl⟩)
  refine bodyPost_ret (v:=.tuple #[.agg #[.slice none 0 0,.map none,.map none],.bool false]) ?_ rfl ⟨rfl, ?_⟩
  ·simp [results,Tryz.results65,go_sem]
  ·with_reducible repeat' (first | exact bl_refl _ | refine bl_alloc ?_)
 by_cases hl:(zs.length:Int)=W*H
 ·have hm:maskB zs=false:=by
   have:=hc
   simp only [cellsB,hW,hH,decide_eq_true hl] at this
   simpa using this
  have HM:Hid (∀ W':World,Below w.heap.size w W'→Calls Tryz.prog 98 #[.agg #[.int .i64 W,.int .i64 H,.slice a zs.length cap,c]] W' fun e w'=>e=.returned (.bool false)∧∃ o,w'=W'.alloc o):=fun W' hW'=>hm ▸ mayMask_any W H a cap zs c W' hW hH (HR.out.kept hW') hl
  clear hm hl hc
  go_enter Tryz.func65,Tryz.ntmps65
  go_wp2_with (first | (go_at_call 97;refine (maySide_any _ _).mono ?_;rintro e w' ⟨rfl,rfl⟩) | (go_at_call 98;refine (HM.out _ (by with_reducible exact bl_alloc (bl_alloc (bl_refl _)))).mono ?_;rintro e w' ⟨rfl,o,rfl⟩))
  refine bodyPost_ret (v:=.tuple #[.agg #[.slice none 0 0,.map none,.map none],.bool false]) ?_ rfl ⟨rfl, ?_⟩
  ·simp [results,Tryz.results65,go_sem]
  ·with_reducible repeat' (first | exact bl_refl _ | refine bl_alloc ?_)
 ·have HM:Hid (∀ W':World,Calls Tryz.prog 98 #[.agg #[.int .i64 W,.int .i64 H,.slice a zs.length cap,c]] W' fun e w'=>e=.returned (.bool false)∧∃ o,w'=W'.alloc o):=fun W'=>mayMask_len W H a cap zs c W' hW hH hl
  clear hl hc
  go_enter Tryz.func65,Tryz.ntmps65
  go_wp2_with (first | (go_at_call 97;refine (maySide_any _ _).mono ?_;rintro e w' ⟨rfl,rfl⟩) | (go_at_call 98;refine (HM.out _).mono ?_;rintro e w' ⟨rfl,o,rfl⟩))
  refine bodyPost_ret (v:=.tuple #[.agg #[.slice none 0 0,.map none,.map none],.bool false]) ?_ rfl ⟨rfl, ?_⟩
  ·simp [results,Tryz.results65,go_sem]
  ·with_reducible repeat' (first | exact bl_refl _ | refine bl_alloc ?_)
set_option maxHeartbeats 1600000 in
theorem sheetMay_bad (W H:Int) (a:Option Addr) (cap:Nat) (zs:List Int) (c:Value) (w:World) (hr:Row w a zs) (hc:cellsB W H zs=false) :
  Calls Tryz.prog 10 #[.agg #[.int .i64 W,.int .i64 H,.slice a zs.length cap,c]] w fun e w'=>e=.returned (.bool false)∧Below w.heap.size w w':=by
 have HC:Hid (∀ W':World,Below w.heap.size w W'→Calls Tryz.prog 34 #[.agg #[.int .i64 W,.int .i64 H,.slice a zs.length cap,c]] W' fun e w'=>e=.returned (.bool false)∧∃ o,w'=W'.alloc o):=fun W' hW'=>hc ▸ cellsMay_any W H a cap zs c W' (hr.kept hW')
 clear hr hc
 go_enter Tryz.func10,Tryz.ntmps10
 go_wp2_with (go_at_call 34;refine (HC.out _ (by with_reducible exact bl_alloc (bl_refl _))).mono ?_;rintro e w2 ⟨rfl,o,rfl⟩)
 go_ret
 exact ⟨rfl,bl_alloc (bl_alloc (bl_refl _))⟩
end Go.Proofs.YtgpjaecgkkgehaaGreatDoor
