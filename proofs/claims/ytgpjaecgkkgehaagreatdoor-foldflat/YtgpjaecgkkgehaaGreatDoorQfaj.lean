/- A part of the proof of foldFlat_holds. -/
import Derived.Test.YtgpjaecgkkgehaaGreatDoorQfai
import Derived.Test.YtgpjaecgkkgehaaGreatDoorQfah
namespace Go.Proofs.YtgpjaecgkkgehaaGreatDoor
open Go.RowKit Go.ChangeMaps
def Pc (w:World) (pb ra rk:Nat) (vt:Value):Prop :=
 w.cell? ⟨pb,0,none⟩=some vt∧w.cell? ⟨pb,1,none⟩=some (.map (some ra))∧w.cell? ⟨pb,2,none⟩=some (.map (some rk))∧w.frozen? ⟨pb,0,none⟩=false
theorem Pc.lt {w:World} {pb ra rk:Nat} {vt:Value} (h:Pc w pb ra rk vt):pb<w.heap.size:=World.block_lt_of_cell? _ _ h.1
theorem Pc.grown {w w':World} {pb ra rk:Nat} {vt:Value} {row:Option Nat} (h:Pc w pb ra rk vt) (hg:w.grownBy w' row) (hne:some pb≠row):Pc w' pb ra rk vt :=
 ⟨hg.cell h.1 hne,hg.cell h.2.1 hne,hg.cell h.2.2.1 hne,(World.frozen?_of_block (a:=⟨pb,0,none⟩) (hg.block pb h.lt hne)).trans h.2.2.2⟩
theorem Pc.apart {w:World} {pb ra rk r:Nat} {vt:Value} {ls:List ((Int×Int×Int×Int)×Value×Nat)} {c:Nat} (h:Pc w pb ra rk vt) (he:EM w r ls c):pb≠r:=by
 rintro rfl
 have:=h.1
 unfold EM at he
 simp [World.cell?,he] at this
def PP (w0 w:World) (base pb ra rk:Nat) (vt:Value) (L:List (Int×Int×Int)) (G:Int×Int×Int×Int→List Int):Prop :=
 Pc w pb ra rk vt∧w.ownsRow base 56 3 vt L.length (flatV L)∧GP w base ra vt G∧(∃ c,EM w rk [] c∧Good [] c)∧(w0.heap.size≤pb∧pb<base∧w0.heap.size≤ra∧ra<base∧w0.heap.size≤rk∧rk<base∧ra≠rk∧base≤w.heap.size)∧Below w0.heap.size w0 w
theorem PP.kept {w0 w w':World} {base pb ra rk:Nat} {vt:Value} {L:List (Int×Int×Int)} {G:Int×Int×Int×Int→List Int} (h:PP w0 w base pb ra rk vt L G) (hb:Below w.heap.size w w'):PP w0 w' base pb ra rk vt L G:=by
 obtain ⟨h1,h2,h3,⟨c,h4,h4g⟩,⟨a1,a2,a3,a4,a5,a6,a7,a8⟩,h6⟩:=h
 exact ⟨h1.grown (bl_grown hb) (by simp),own_below h2 hb,h3.kept hb,⟨c,h4.grown (bl_grown hb) (by simp),h4g⟩,⟨a1,a2,a3,a4,a5,a6,a7,Nat.le_trans a8 hb.size⟩,bl_via h6 hb⟩
theorem PP.entry {w0 wr w:World} {base pb ra rk:Nat} {vt:Value} {L:List (Int×Int×Int)} {G:Int×Int×Int×Int→List Int} (h:PP w0 wr base pb ra rk vt L G) (hb:Below wr.heap.size wr w) (e:Int×Int×Int×Int) (n:Int) :
  ∃ v0 st W2,(Instr.mapEntry 65 (.map (some ra)) (ek e)).run Tryz.prog w=.ok (.tuple #[v0,.int .i64 st]) W2∧w.grownBy W2 (some ra)∧W2.heap.size=w.heap.size∧W2.ownsRow base 3 1 v0 (G e).length ((G e).map (Value.int .i64))∧(∀ g,v0.ownBlock=some g→base≤g∧g<wr.heap.size) ∧
   ∀ v' W3,W2.grownBy W3 v0.ownBlock→W3.ownsRow base 3 1 v' ((G e).length+1) ((G e).map (Value.int .i64) ++ [.int .i64 n])→(v'.ownBlock=v0.ownBlock∨v'.ownBlock=some W2.heap.size) →
    ∃ W4,(Instr.entryStore 65 (.map (some ra)) (.int .i64 st) v').run Tryz.prog W3=.ok () W4∧W3.grownBy W4 (some ra)∧PP w0 W4 base pb ra rk vt L (fun j=>if j=e then G e ++ [n] else G j):=by
 have hk:=h.kept hb
 obtain ⟨h1,h2,h3,⟨c,h4,h4g⟩,⟨a1,a2,a3,a4,a5,a6,a7,a8⟩,h6⟩:=hk
 have hemr:∃ ls c,EM w ra ls c:=by
  obtain ⟨ls,c,q,_⟩:=h3
  exact ⟨ls,c,q⟩
 obtain ⟨lsr,cr,hemr⟩:=hemr
 obtain ⟨v0,st,W2,r1,r2,r3,r4,r5⟩:=h3.entry a4 (fun g hg=>(own_lt h2 g hg).2) e n
 have htop:∀ g,v0.ownBlock=some g→base≤g∧g<wr.heap.size:=by
  obtain ⟨q1,q2,⟨ls,cl,b1,b2,b3,b4,b5⟩,q3⟩:=h
  have b1':EM w ra ls cl:=b1.grown (bl_grown hb) (by simp)
  obtain ⟨st',ls1,c1,hrun,_⟩:=entry27 Tryz.underlying65 zero70 b1' b2 e
  rw [hrun] at r1
  simp only [Result.ok.injEq,Value.tuple.injEq,Array.mk.injEq,List.cons.injEq] at r1
  obtain ⟨⟨rfl,_⟩,_⟩:=r1
  intro g hg
  cases hl:lk ls e with
  | none =>
   rw [hl] at hg
   simp [Value.ownBlock] at hg
  | some v =>
   rw [hl] at hg
   exact own_lt (b4 e v hl).1 g hg
 refine ⟨v0,st,W2,r1,r2,r3,r4,htop,fun v' W3 g1 g2 g3=>?_⟩
 obtain ⟨W4,s1,s2,s3⟩:=r5 v' W3 g1 g2 g3
 have hrow:∀ k:Nat,k<base→some k≠v0.ownBlock:=fun k hk e1=>by
  have:=(htop k e1.symm).1
  omega
 have hrowt:vt.ownBlock=none∨vt.ownBlock≠some ra:=by
  cases hu:vt.ownBlock with
  | none=>exact Or.inl rfl
  | some g =>
   refine Or.inr (fun e1=>?_)
   have:=(own_lt h2 g hu).1
   simp at e1
   omega
 have hvv:vt.ownBlock=none∨vt.ownBlock≠v0.ownBlock:=by
  obtain ⟨ls,cl,b1,b2,b3,b4,b5⟩:=h3
  obtain ⟨st',ls1,c1,hrun,_⟩:=entry27 Tryz.underlying65 zero70 b1 b2 e
  rw [hrun] at r1
  simp only [Result.ok.injEq,Value.tuple.injEq,Array.mk.injEq,List.cons.injEq] at r1
  obtain ⟨⟨rfl,_⟩,_⟩:=r1
  cases hl:lk ls e with
  | none =>
   cases hu:vt.ownBlock with
   | none=>exact Or.inl rfl
   | some g=>exact Or.inr (by simp [Value.ownBlock])
  | some v =>
   rcases (b4 e v hl).2.2 with q | q
   ·exact Or.inl q
   ·exact Or.inr (fun e1=>q e1.symm)
 have hpa:some pb≠some ra:=fun e1=>h1.apart hemr (by simpa using e1)
 refine ⟨W4,s1,s2,((h1.grown r2 hpa).grown g1 (hrow pb a2)).grown s2 hpa,((h2.kept r2 hrowt).kept g1 hvv).kept s2 hrowt,s3,⟨c,((h4.grown r2 (fun e1=>a7 (by simp at e1;exact e1.symm))).grown g1 (hrow rk a6)).grown s2 (fun e1=>a7 (by simp at e1;exact e1.symm)),h4g⟩,⟨a1,a2,a3,a4,a5,a6,a7,Nat.le_trans a8 (Nat.le_trans r2.size (Nat.le_trans g1.size s2.size))⟩, ?_⟩
 have hlt:w0.heap.size≤w.heap.size:=h6.size
 have k1:=h6.grown r2 hlt (fun k hk=>by simp at hk;omega)
 have k2:=k1.grown g1 (Nat.le_trans hlt r2.size) (fun k hk=>by have:=(htop k hk).1;omega)
 exact k2.grown s2 (Nat.le_trans hlt (Nat.le_trans r2.size g1.size)) (fun k hk=>by simp at hk;omega)
theorem PP.pushed {w0 wr w w3:World} {base pb ra rk g cap:Nat} {vt:Value} {L:List (Int×Int×Int)} {t:Int×Int×Int} {G:Int×Int×Int×Int→List Int} (h:PP w0 wr base pb ra rk vt L G) (hb:Below wr.heap.size wr w) (hg:w.grownBy w3 vt.ownBlock)
  (hown:w3.ownsRow base 56 3 (.slice (some ⟨g,0,none⟩) (L.length+1) cap) (L.length+1) (flatV L ++ [.int .i64 t.1,.int .i64 t.2.1,.int .i64 t.2.2])) (hl:vt.ownBlock=some g∨g=w.heap.size) :
  PP w0 (w3.setCell ⟨pb,0,none⟩ (.slice (some ⟨g,0,none⟩) (L.length+1) cap)) base pb ra rk (.slice (some ⟨g,0,none⟩) (L.length+1) cap) (L ++ [t]) G:=by
 obtain ⟨h1,h2,h3,⟨c,h4,h4g⟩,⟨a1,a2,a3,a4,a5,a6,a7,a8⟩,h6⟩:=h.kept hb
 have hrow:∀ k:Nat,k<base→some k≠vt.ownBlock:=fun k hk e1=>by
  have:=(own_lt h2 k e1.symm).1
  omega
 have hvb:(Value.slice (some ⟨g,0,none⟩) (L.length+1) cap).ownBlock=some g:=rfl
 have p1:=h1.grown hg (hrow pb a2)
 have hemr:∃ ls c,EM w ra ls c:=by
  obtain ⟨ls,c,q,_⟩:=h3
  exact ⟨ls,c,q⟩
 obtain ⟨lsr,cr,hemr⟩:=hemr
 have hpa:pb≠ra:=h1.apart hemr
 have hpk:pb≠rk:=h1.apart h4
 have gp:=h3.other (vt':=.slice (some ⟨g,0,none⟩) (L.length+1) cap) a4 hg (fun g hg=>(own_lt h2 g hg).1) (by
  rw [hvb]
  rcases hl with q | q
  ·exact Or.inl q.symm
  ·exact Or.inr (by rw [q]))
 have hs:w3.grownBy (w3.setCell ⟨pb,0,none⟩ (.slice (some ⟨g,0,none⟩) (L.length+1) cap)) (some pb):=by
  have hb:=Below.setCell (w:=w3) (p:=⟨pb,0,none⟩) (Below.refl pb w3) (Nat.le_refl _) (.slice (some ⟨g,0,none⟩) (L.length+1) cap)
  exact ⟨hb.os,hb.tape,hb.output,hb.size,fun k _ hk=>by
   have:k≠pb:=fun e1=>hk (by rw [e1])
   exact Below.heap_setCell _ _ _ k this⟩
 have hgb:base≤g:=(own_lt hown g hvb).1
 have hgs:some g≠some pb:=fun e1=>by
  simp at e1
  omega
 refine ⟨⟨?_, ?_, ?_, ?_⟩, ?_, ?_,⟨c,(h4.grown hg (hrow rk a6)).grown hs (fun e1=>hpk (by simpa using e1.symm)),h4g⟩,⟨a1,a2,a3,a4,a5,a6,a7,Nat.le_trans a8 (Nat.le_trans hg.size hs.size)⟩, ?_⟩
 ·exact World.cell?_setCell_same _ _ _ p1.1
 ·exact (World.cell?_setCell_other _ _ _ _ (by simp)).trans p1.2.1
 ·exact (World.cell?_setCell_other _ _ _ _ (by simp)).trans p1.2.2.1
 ·exact (World.frozen?_setCell _ _ _ _).trans p1.2.2.2
 ·rw [List.length_append,List.length_singleton,flatV_add]
  exact hown.kept hs (Or.inr (by rw [hvb];exact hgs))
 ·obtain ⟨ls,cl,b1,b2,b3,b4,b5⟩:=gp
  refine ⟨ls,cl,b1.grown hs (fun e1=>hpa (by simpa using e1.symm)),b2,b3,fun e v he=>?_,b5⟩
  obtain ⟨q1,q2,q3⟩:=b4 e v he
  refine ⟨q1.kept hs ?_,q2,q3⟩
  obtain ⟨g',e1,e2,_⟩:=own_some q1 (List.length_pos_iff.2 q2)
  rw [e1]
  exact Or.inr (fun e3=>by simp at e3;omega)
 ·have k1:=h6.grown hg h6.size (fun k hk=>by have:=(own_lt h2 k hk).1;omega)
  exact k1.grown hs (Nat.le_trans h6.size hg.size) (fun k hk=>by simp at hk;omega)
open Go.RowKit Go.ChangeMaps
def AdjC (cr:Int×Int×Int×Int→Bool) (t u:Int×Int×Int):Prop:=u≠t∧∃ e,hasT t e=true∧hasT u e=true∧cr e=true
theorem AdjC.symm {cr:Int×Int×Int×Int→Bool} {t u:Int×Int×Int} (h:AdjC cr t u):AdjC cr u t:=⟨fun e=>h.1 e.symm,h.2.imp fun _ he=>⟨he.2.1,he.1,he.2.2⟩⟩
def ReachC (cr:Int×Int×Int×Int→Bool) (l:List (Int×Int×Int)) (t u:Int×Int×Int):Prop:=t∈l∧∀ p:Int×Int×Int→Prop,p t→(∀ a b,p a→b∈l→AdjC cr a b→p b)→p u
theorem ReachC.here {cr:Int×Int×Int×Int→Bool} {l:List (Int×Int×Int)} {t:Int×Int×Int} (h:t∈l):ReachC cr l t t:=⟨h,fun _ k _=>k⟩
theorem ReachC.step {cr:Int×Int×Int×Int→Bool} {l:List (Int×Int×Int)} {t u v:Int×Int×Int} (h:ReachC cr l t u) (hv:v∈l) (ha:AdjC cr u v):ReachC cr l t v:=⟨h.1,fun p k s=>s _ _ (h.2 p k s) hv ha⟩
theorem ReachC.ind {cr:Int×Int×Int×Int→Bool} {l:List (Int×Int×Int)} {t:Int×Int×Int} {motive:∀ u,ReachC cr l t u→Prop} (here:∀ h:t∈l,motive t (ReachC.here h))
  (step:∀ {u v} (h:ReachC cr l t u) (hv:v∈l) (ha:AdjC cr u v),motive u h→motive v (ReachC.step h hv ha)) {u:Int×Int×Int} (h:ReachC cr l t u):motive u h:=by
 obtain ⟨_,m⟩:=h.2 (fun x=>∃ k:ReachC cr l t x,motive x k) ⟨ReachC.here h.1,here h.1⟩ (fun _ _ ⟨_,m⟩ hb hab=>⟨_,step _ hb hab m⟩)
 exact m
theorem ReachC.mem {cr:Int×Int×Int×Int→Bool} {l:List (Int×Int×Int)} {t u:Int×Int×Int} (h:ReachC cr l t u):t∈l∧u∈l:=by
 induction h using ReachC.ind with
 | here h=>exact ⟨h,h⟩
 | step _ hv _ ih=>exact ⟨ih.1,hv⟩
theorem ReachC.trans {cr:Int×Int×Int×Int→Bool} {l:List (Int×Int×Int)} {t u v:Int×Int×Int} (h:ReachC cr l t u) (k:ReachC cr l u v):ReachC cr l t v:=by
 induction k using ReachC.ind with
 | here _=>exact h
 | step _ hv ha ih=>exact ih.step hv ha
theorem ReachC.symm {cr:Int×Int×Int×Int→Bool} {l:List (Int×Int×Int)} {t u:Int×Int×Int} (h:ReachC cr l t u):ReachC cr l u t:=by
 induction h using ReachC.ind with
 | here h=>exact .here h
 | step h hv ha ih=>exact ((ReachC.here hv).step h.mem.2 ha.symm).trans ih
theorem reach_all {l:List (Int×Int×Int)} {t u:Int×Int×Int}:ReachC (fun _=>true) l t u↔Reach l t u:=by
 constructor
 ·intro h
  induction h using ReachC.ind with
  | here h=>exact .here h
  | step _ hv ha ih=>exact ih.step hv ⟨ha.1,ha.2.imp fun _ he=>⟨he.1,he.2.1⟩⟩
 ·intro h
  induction h using Reach.ind with
  | here h=>exact .here h
  | step _ hv ha ih=>exact ih.step hv ⟨ha.1,ha.2.imp fun _ he=>⟨he.1,he.2,rfl⟩⟩
def lab (part:Nat→Int) (num:Int) (R:List Nat):Nat→Int:=fun i=>if i∈R then num else part i
def Sp (cr:Int×Int×Int×Int→Bool) (L:List (Int×Int×Int)) (part:Nat→Int) (f:Nat) (R:List Nat):Prop :=
 f∈R∧R.Nodup∧∀ i∈R,∃ h:i<L.length,part i<0∧∃ hf:f<L.length,ReachC cr L L[f] L[i]
def DoneE (L:List (Int×Int×Int)) (part:Nat→Int) (R:List Nat) (e:Int×Int×Int×Int):Prop := ∀ j (hj:j<L.length),hasT L[j] e=true→j∈R∨0≤part j
def DoneT (cr:Int×Int×Int×Int→Bool) (L:List (Int×Int×Int)) (part:Nat→Int) (R:List Nat) (t:Int×Int×Int) (k:Nat):Prop := ∀ k',k'<k→cr (edg t k')=true→DoneE L part R (edg t k')
theorem DoneE.mono {L:List (Int×Int×Int)} {part:Nat→Int} {R R':List Nat} {e:Int×Int×Int×Int} (h:DoneE L part R e) (hs:∀ i∈R,i∈R'):DoneE L part R' e:=fun j hj ht=>(h j hj ht).imp (hs j) id
theorem DoneT.mono {cr:Int×Int×Int×Int→Bool} {L:List (Int×Int×Int)} {part:Nat→Int} {R R':List Nat} {t:Int×Int×Int} {k:Nat} (h:DoneT cr L part R t k) (hs:∀ i∈R,i∈R'):DoneT cr L part R' t k:=fun k' hk hc=>(h k' hk hc).mono hs
theorem erase_len {R:List Nat} (n:Nat) (_hn:R.Nodup):R.length≤(R.erase n).length+1:=by
 by_cases h:n∈R
 ·rw [List.length_erase_of_mem h]
  omega
 ·rw [List.erase_of_not_mem h]
  omega
theorem nodup_len:∀ (n:Nat) (R:List Nat),R.Nodup→(∀ i∈R,i<n)→R.length≤n
 | 0,R,_,h=>by
  cases R with
  | nil=>simp
  | cons a r=>exact absurd (h a (by simp)) (by omega)
 | n+1,R,hn,h=>by
  have h1:=nodup_len n (R.erase n) (hn.erase n) (fun i hi=>by
   have h2:=h i (List.mem_of_mem_erase hi)
   have h3:i≠n:=fun e=>by
    subst e
    exact (List.Nodup.not_mem_erase hn) hi
   omega)
  have:=erase_len n hn
  omega
theorem Sp.len {cr:Int×Int×Int×Int→Bool} {L:List (Int×Int×Int)} {part:Nat→Int} {f:Nat} {R:List Nat} (h:Sp cr L part f R):R.length≤L.length:=nodup_len _ _ h.2.1 (fun i hi=>(h.2.2 i hi).1)
theorem Sp.found {cr:Int×Int×Int×Int→Bool} {L:List (Int×Int×Int)} {part:Nat→Int} {f:Nat} {R:List Nat} (h:Sp cr L part f R) (hnd:L.Nodup) {i j:Nat} (hi:i∈R) (hj:j<L.length) (hn:j ∉ R) (hp:part j<0) {e:Int×Int×Int×Int} (hc:cr e=true) (h1:∀ hi':i<L.length,hasT L[i] e=true) (h2:hasT L[j] e=true):Sp cr L part f (R ++ [j]):=by
 obtain ⟨hi1,hi2,hf,hr⟩:=h.2.2 i hi
 refine ⟨List.mem_append_left _ h.1, ?_,fun k hk=>?_⟩
 ·rw [List.nodup_append]
  refine ⟨h.2.1,by simp,fun a ha b hb=>?_⟩
  simp at hb
  subst hb
  exact fun e=>hn (e ▸ ha)
 ·rcases List.mem_append.1 hk with hk | hk
  ·exact h.2.2 k hk
  ·simp at hk
   subst hk
   refine ⟨hj,hp,hf,hr.step (List.getElem_mem hj) ⟨fun e1=>?_,e,h1 hi1,h2,hc⟩⟩
   have:=nodup_inj hnd hj hi1 e1
   exact hn (this ▸ hi)
theorem lab_found (part:Nat→Int) (num:Int) (R:List Nat) (j:Nat):lab part num (R ++ [j])=fun i=>if i=j then num else lab part num R i:=by
 funext i
 unfold lab
 by_cases e:i=j
 ·simp [e]
 ·simp [e]
def ZRow (w:World) (g n:Nat) (f:Nat→Int):Prop := ∀ i,i<n→w.cell? ⟨g,i,none⟩=some (.int .i64 (f i))∧w.frozen? ⟨g,i,none⟩=false
theorem ZRow.grown {w w':World} {g n:Nat} {f:Nat→Int} {row:Option Nat} (h:ZRow w g n f) (hg:w.grownBy w' row) (hne:some g≠row):ZRow w' g n f:=fun i hi =>
 ⟨hg.cell (h i hi).1 hne,(World.frozen?_of_block (a:=⟨g,i,none⟩) (hg.block g (World.block_lt_of_cell? _ _ (h i hi).1) hne)).trans (h i hi).2⟩
theorem ZRow.kept {w w':World} {g n:Nat} {f:Nat→Int} (h:ZRow w g n f) (hb:Below w.heap.size w w'):ZRow w' g n f:=h.grown (bl_grown hb) (by simp)
theorem ZRow.set {w:World} {g n:Nat} {f:Nat→Int} (h:ZRow w g n f) {i:Nat} (v:Int) (hi:i<n):ZRow (w.setCell ⟨g,i,none⟩ (.int .i64 v)) g n (fun j=>if j=i then v else f j):=fun j hj=>by
 refine ⟨?_,by rw [World.frozen?_setCell];exact (h j hj).2⟩
 by_cases e:j=i
 ·subst e
  rw [World.cell?_setCell_same _ _ _ (h j hj).1]
  simp
 ·rw [World.cell?_setCell_other _ _ _ _ (by simp <;> omega)]
  rw [(h j hj).1]
  simp [e]
def PA (wE:World) (ad:Option Addr) (ra:Nat) (L:List (Int×Int×Int)):Prop :=
 TRow wE ad L∧∀ e,∃ a cap,Row wE a (gix L e)∧∀ wx:World,Below wE.heap.size wE wx→(Instr.lookup 65 (.map (some ra)) (ek e) false).run Tryz.prog wx=.ok (.slice a (gix L e).length cap) wx
theorem PA.kept {w w':World} {ad:Option Addr} {ra:Nat} {L:List (Int×Int×Int)} (h:PA w ad ra L) (hb:Below w.heap.size w w'):PA w' ad ra L :=
 ⟨h.1.kept hb,fun e=>by
  obtain ⟨a,cap,h1,h2⟩:=h.2 e
  exact ⟨a,cap,h1.kept hb,fun wx hx=>h2 wx (bl_via hb hx)⟩⟩
open Go.RowKit Go.ChangeMaps
abbrev M6:=Int×Int×Int×Int×Int×Int
def idM:M6:=(1,0,0,1,0,0)
def noM:M6:=(0,0,0,0,0,0)
def aft (m n:M6):M6 :=
 (dot n.1 n.2.1 m.1 m.2.2.1,dot n.1 n.2.1 m.2.1 m.2.2.2.1,dot n.2.2.1 n.2.2.2.1 m.1 m.2.2.1,dot n.2.2.1 n.2.2.2.1 m.2.1 m.2.2.2.1,dot n.1 n.2.1 m.2.2.2.2.1 m.2.2.2.2.2+n.2.2.2.2.1,dot n.2.2.1 n.2.2.2.1 m.2.2.2.2.1 m.2.2.2.2.2+n.2.2.2.2.2)
def lnW (e:Int×Int×Int×Int):Int:=if e.1=e.2.2.1 then 0 else if e.2.1=e.2.2.2 then 1 else if e.2.2.2<e.2.1 then 2 else 3
def lnC (e:Int×Int×Int×Int):Int:=if e.1=e.2.2.1 then e.1 else if e.2.1=e.2.2.2 then e.2.1 else if e.2.2.2<e.2.1 then e.1+e.2.1 else e.1 - e.2.1
def mir (v c:Int):M6:=(mA v,mB v,mB v,mD v,mE v c,mF v c)
def farM (kd:Int×Int×Int×Int→Int) (e:Int×Int×Int×Int) (m:M6):M6:=if kd e=0 then m else aft (mir (lnW e) (lnC e)) m
def mapM (m:M6):Bool:=mapB m.1 m.2.1 m.2.2.1 m.2.2.2.1 m.2.2.2.2.1 m.2.2.2.2.2
def GoodM (m:M6) (B:Int):Prop:=mapM m=true∧(-B≤m.2.2.2.2.1∧m.2.2.2.2.1≤B)∧(-B≤m.2.2.2.2.2∧m.2.2.2.2.2≤B)
theorem GoodM.mono {m:M6} {B C:Int} (h:GoodM m B) (hB:B≤C):GoodM m C:=⟨h.1,⟨by have:=h.2.1;omega,by have:=h.2.1;omega⟩,⟨by have:=h.2.2;omega,by have:=h.2.2;omega⟩⟩
theorem idM_good:GoodM idM 0:=⟨by decide,by decide,by decide⟩
theorem line_may {t:Int×Int×Int} {e:Int×Int×Int×Int} (h:hasT t e=true) (hb:(0≤t.1∧t.1≤8)∧(0≤t.2.1∧t.2.1≤8)∧(0≤t.2.2∧t.2.2≤3)):lineB (lnW e) (lnC e)=true∧-40≤lnC e∧lnC e≤40:=by
 obtain ⟨x,y,k⟩:=t
 obtain ⟨p,q,r,s⟩:=e
 simp only [hasT] at h hb
 rw [hasB_or] at h
 obtain ⟨hx,hy,hk⟩:=hb
 have hk4:k=0∨k=1∨k=2∨k=3:=by omega
 have key:(p=r→p % 2=0)∧(q=s→q % 2=0)∧(p+q) % 2=0∧(0≤p∧p≤18)∧(0≤q∧q≤18):=by
  rcases hk4 with rfl | rfl | rfl | rfl <;> simp only [e0_0,e0_1,e0_2,e0_3,e1_0,e1_1,e1_2,e1_3,e2_0,e2_1,e2_2,e2_3] at h <;> omega
 clear h hk4
 by_cases c1:p=r
 ·simp only [lineB,lnW,lnC,if_pos c1,decide_eq_true_eq]
  omega
 ·by_cases c2:q=s
  ·simp only [lineB,lnW,lnC,if_neg c1,if_pos c2,decide_eq_true_eq]
   omega
  ·by_cases c3:s<q
   ·simp only [lineB,lnW,lnC,if_neg c1,if_neg c2,if_pos c3,decide_eq_true_eq]
    omega
   ·simp only [lineB,lnW,lnC,if_neg c1,if_neg c2,if_neg c3,decide_eq_true_eq]
    omega
theorem mir_may {v c:Int} (h:lineB v c=true) (hb : -40≤c∧c≤40):GoodM (mir v c) 80:=by
 obtain ⟨h0,h3,b1,b2,b3⟩:=line_bd h
 have hv:v=0∨v=1∨v=2∨v=3:=by omega
 rcases hv with rfl | rfl | rfl | rfl <;> simp [GoodM,mapM,mir,mapB,mA,mB,mD,mE,mF,unitB,evenB] <;> omega
theorem map_lin {a b c d e f:Int} (h:mapB a b c d e f=true):((a=1∨a=-1)∧b=0∧c=0∧(d=1∨d=-1))∨(a=0∧(b=1∨b=-1)∧(c=1∨c=-1)∧d=0):=by
 simp only [mapB,unitB,Bool.and_eq_true,Bool.or_eq_true,decide_eq_true_eq] at h
 omega
theorem map_of {a b c d e f:Int} (h:((a=1∨a=-1)∧b=0∧c=0∧(d=1∨d=-1))∨(a=0∧(b=1∨b=-1)∧(c=1∨c=-1)∧d=0)) (he:e % 2=0∧-1000000≤e∧e≤1000000) (hf:f % 2=0∧-1000000≤f∧f≤1000000):mapB a b c d e f=true:=by
 simp only [mapB,unitB,evenB,Bool.and_eq_true,Bool.or_eq_true,decide_eq_true_eq]
 omega
theorem aft_good {m n:M6} {B:Int} (hm:GoodM m 80) (hn:GoodM n B) (hB:B≤900000):GoodM (aft m n) (B+160):=by
 obtain ⟨a,b,c,d,e,f⟩:=m
 obtain ⟨A,B',C,D,E,F⟩:=n
 obtain ⟨m1,m2,m3⟩:=hm
 obtain ⟨n1,n2,n3⟩:=hn
 simp only [mapM] at m1 m2 m3 n1 n2 n3
 have me:=(map_bd m1).2.2
 have ne:=(map_bd n1).2.2
 have ml:=map_lin m1
 have nl:=map_lin n1
 have key:(((dot A B' a c=1∨dot A B' a c=-1)∧dot A B' b d=0∧dot C D a c=0∧(dot C D b d=1∨dot C D b d=-1))∨(dot A B' a c=0∧(dot A B' b d=1∨dot A B' b d=-1)∧(dot C D a c=1∨dot C D a c=-1)∧dot C D b d=0))∧(dot A B' e f=e∨dot A B' e f=-e∨dot A B' e f=f∨dot A B' e f=-f)∧(dot C D e f=e∨dot C D e f=-e∨dot C D e f=f∨dot C D e f=-f):=by
  clear m1 m2 m3 n1 n2 n3 me ne
  refine ⟨?_, ?_, ?_⟩
  ·rcases ml with ⟨rfl | rfl,rfl,rfl,rfl | rfl⟩ | ⟨rfl,rfl | rfl,rfl | rfl,rfl⟩ <;> rcases nl with ⟨rfl | rfl,rfl,rfl,rfl | rfl⟩ | ⟨rfl,rfl | rfl,rfl | rfl,rfl⟩ <;> decide
  ·rcases nl with ⟨rfl | rfl,rfl,rfl,rfl | rfl⟩ | ⟨rfl,rfl | rfl,rfl | rfl,rfl⟩ <;> simp [dot]
  ·rcases nl with ⟨rfl | rfl,rfl,rfl,rfl | rfl⟩ | ⟨rfl,rfl | rfl,rfl | rfl,rfl⟩ <;> simp [dot]
 obtain ⟨k1,k2,k3⟩:=key
 clear ml nl m1 n1
 refine ⟨?_, ?_, ?_⟩
 ·refine map_of (by simp only [aft];exact k1) ?_ ?_ <;> simp only [aft] <;> omega
 ·simp only [aft]
  omega
 ·simp only [aft]
  omega
theorem far_good {kd:Int×Int×Int×Int→Int} {t:Int×Int×Int} {e:Int×Int×Int×Int} {m:M6} {B:Int} (h:hasT t e=true) (hb:(0≤t.1∧t.1≤8)∧(0≤t.2.1∧t.2.1≤8)∧(0≤t.2.2∧t.2.2≤3)) (hm:GoodM m B) (hB:B≤900000):GoodM (farM kd e m) (B+160):=by
 unfold farM
 split
 ·exact hm.mono (by omega)
 ·exact aft_good (mir_may (line_may h hb).1 (line_may h hb).2) hm hB
def Cons (kd:Int×Int×Int×Int→Int) (L:List (Int×Int×Int)) (N:Nat→M6):Prop :=
 N 0=idM∧∀ i j (hi:i<L.length) (hj:j<L.length) e,i≠j→hasT L[i] e=true→hasT L[j] e=true→N j=farM kd e (N i)
def MI (kd:Int×Int×Int×Int→Int) (L:List (Int×Int×Int)) (K:List Nat) (M:Nat→M6):Prop :=
 0∈K∧K.Nodup∧M 0=idM∧(∀ i∈K,i<L.length∧GoodM (M i) (160*(K.length:Int)))∧∀ N,Cons kd L N→∀ i∈K,M i=N i
theorem MI.start {kd:Int×Int×Int×Int→Int} {L:List (Int×Int×Int)} {M:Nat→M6} (h0:0<L.length) (hM:M 0=idM):MI kd L [0] M:=by
 refine ⟨by simp,by simp,hM,fun i hi=>?_,fun N hN i hi=>?_⟩
 ·simp at hi
  subst hi
  rw [hM]
  exact ⟨h0,idM_good.mono (by simp)⟩
 ·simp at hi
  subst hi
  rw [hM,hN.1]
theorem MI.len {kd:Int×Int×Int×Int→Int} {L:List (Int×Int×Int)} {K:List Nat} {M:Nat→M6} (h:MI kd L K M):K.length≤L.length:=nodup_len _ _ h.2.1 (fun i hi=>(h.2.2.2.1 i hi).1)
theorem snoc_nodup {K:List Nat} {j:Nat} (h:K.Nodup) (hj:j ∉ K):(K ++ [j]).Nodup:=by
 rw [List.nodup_append]
 refine ⟨h,by simp,fun a ha b hb=>?_⟩
 simp at hb
 subst hb
 exact fun e=>hj (e ▸ ha)
theorem MI.found {kd:Int×Int×Int×Int→Int} {L:List (Int×Int×Int)} {K:List Nat} {M:Nat→M6} (h:MI kd L K M) (hL:L.length≤300) (hbd:∀ t∈L,(0≤t.1∧t.1≤8)∧(0≤t.2.1∧t.2.1≤8)∧(0≤t.2.2∧t.2.2≤3)) {i j:Nat} (hi:i∈K) (hj:j<L.length) (hn:j ∉ K) {e:Int×Int×Int×Int} (h1:∀ hi':i<L.length,hasT L[i] e=true) (h2:hasT L[j] e=true):MI kd L (K ++ [j]) (fun q=>if q=j then farM kd e (M i) else M q):=by
 have hlen:=h.len
 obtain ⟨a1,a2,a3,a4,a5⟩:=h
 obtain ⟨hi',hgi⟩:=a4 i hi
 have hne:i≠j:=fun e=>hn (e ▸ hi)
 have h0:(0:Nat)≠j:=fun e=>hn (e ▸ a1)
 refine ⟨List.mem_append_left _ a1,snoc_nodup a2 hn, ?_,fun q hq=>?_,fun N hN q hq=>?_⟩
 ·simp only [if_neg h0]
  exact a3
 ·have hl:((K ++ [j]).length:Int)=(K.length:Int)+1:=by simp
  rw [hl]
  rcases List.mem_append.1 hq with hq | hq
  ·have:q≠j:=fun e=>hn (e ▸ hq)
   simp only [if_neg this]
   exact ⟨(a4 q hq).1,(a4 q hq).2.mono (by omega)⟩
  ·simp at hq
   subst hq
   simp only [if_true]
   exact ⟨hj,(far_good (h1 hi') (hbd _ (List.getElem_mem hi')) hgi (by omega)).mono (by omega)⟩
 ·rcases List.mem_append.1 hq with hq | hq
  ·have:q≠j:=fun e=>hn (e ▸ hq)
   simp only [if_neg this]
   exact a5 N hN q hq
  ·simp at hq
   subst hq
   simp only [if_true]
   rw [hN.2 i q hi' hj e hne (h1 hi') h2,a5 N hN i hi]
theorem MI.tear {kd:Int×Int×Int×Int→Int} {L:List (Int×Int×Int)} {K:List Nat} {M:Nat→M6} (h:MI kd L K M) {i j:Nat} (hi:i∈K) (hj:j∈K) (hne:i≠j) {e:Int×Int×Int×Int} (h1:∀ hi':i<L.length,hasT L[i] e=true) (h2:∀ hj':j<L.length,hasT L[j] e=true) (hM:M j≠farM kd e (M i)):¬ ∃ N,Cons kd L N:=by
 rintro ⟨N,hN⟩
 obtain ⟨a1,a2,a3,a4,a5⟩:=h
 have hi':=(a4 i hi).1
 have hj':=(a4 j hj).1
 apply hM
 rw [a5 N hN i hi,a5 N hN j hj]
 exact hN.2 i j hi' hj' e hne (h1 hi') (h2 hj')
def EdK (kd:Int×Int×Int×Int→Int) (L:List (Int×Int×Int)) (K:List Nat) (M:Nat→M6) (i:Nat) (e:Int×Int×Int×Int):Prop := ∀ j (hj:j<L.length),i≠j→hasT L[j] e=true→j∈K∧M j=farM kd e (M i)
def EdN (kd:Int×Int×Int×Int→Int) (L:List (Int×Int×Int)) (K:List Nat) (M:Nat→M6) (i n:Nat):Prop := ∀ k,k<n→∀ hi:i<L.length,EdK kd L K M i (edg L[i] k)
theorem EdK.mono {kd:Int×Int×Int×Int→Int} {L:List (Int×Int×Int)} {K K':List Nat} {M M':Nat→M6} {i:Nat} {e:Int×Int×Int×Int} (h:EdK kd L K M i e) (hi:i∈K) (hs:∀ q∈K,q∈K'∧M' q=M q):EdK kd L K' M' i e:=fun j hj hne ht=>by
 obtain ⟨a,b⟩:=h j hj hne ht
 exact ⟨(hs j a).1,by rw [(hs j a).2,(hs i hi).2];exact b⟩
theorem EdN.mono {kd:Int×Int×Int×Int→Int} {L:List (Int×Int×Int)} {K K':List Nat} {M M':Nat→M6} {i n:Nat} (h:EdN kd L K M i n) (hi:i∈K) (hs:∀ q∈K,q∈K'∧M' q=M q):EdN kd L K' M' i n:=fun k hk hi'=>(h k hk hi').mono hi hs
theorem closed_all {L:List (Int×Int×Int)} (hJ:Joined L) (hnd:L.Nodup) (S:Nat→Prop) (h0:S 0) (hc:∀ i j (hi:i<L.length) (hj:j<L.length),S i→Adj L[i] L[j]→S j):∀ i,i<L.length→S i:=by
 obtain ⟨hp,hr⟩:=hJ
 intro i hi
 obtain ⟨c,hc',e,hs⟩:=(hr i hi).2 (fun u=>∃ c,∃ hc':c<L.length,L[c]=u∧S c) ⟨0,hp,rfl,h0⟩ (fun a b ha hb hab=>by
  obtain ⟨c,hc',e,hs⟩:=ha
  obtain ⟨q,hq,e2⟩:=List.getElem_of_mem hb
  subst e e2
  exact ⟨q,hq,rfl,hc c q hc' hq hs hab⟩)
 have:=nodup_inj hnd hc' hi e
 subst this
 exact hs
theorem EdN.adj {kd:Int×Int×Int×Int→Int} {L:List (Int×Int×Int)} {K:List Nat} {M:Nat→M6} {i j:Nat} (h:EdN kd L K M i 3) (hi:i<L.length) (hj:j<L.length) (hne:i≠j) {e:Int×Int×Int×Int} (h1:hasT L[i] e=true) (h2:hasT L[j] e=true):j∈K∧M j=farM kd e (M i):=by
 obtain ⟨k,hk,rfl⟩:=hasT_edg h1
 exact h k hk hi j hj hne h2
theorem adj_ne {L:List (Int×Int×Int)} {i j:Nat} {hi:i<L.length} {hj:j<L.length} (h:Adj L[i] L[j]):i≠j:=fun e=>by
 subst e
 exact h.1 rfl
theorem closed_k {kd:Int×Int×Int×Int→Int} {L:List (Int×Int×Int)} {K KS:List Nat} {M:Nat→M6} (hJ:Joined L) (hnd:L.Nodup) (h0:0∈KS) (hsub:∀ i∈K,i∈KS) (hcl:∀ i∈KS,EdN kd L K M i 3):∀ i,i<L.length→i∈KS :=
 closed_all hJ hnd (fun i=>i∈KS) h0 (fun i j hi hj hs ha=>by
  obtain ⟨e,h1,h2⟩:=ha.2
  exact hsub _ ((hcl i hs).adj hi hj (adj_ne ha) h1 h2).1)
theorem MI.cons {kd:Int×Int×Int×Int→Int} {L:List (Int×Int×Int)} {K:List Nat} {M:Nat→M6} (hJ:Joined L) (hnd:L.Nodup) (h:MI kd L K M) (hcl:∀ i∈K,EdN kd L K M i 3):(∀ i,i<L.length→i∈K)∧Cons kd L M:=by
 have ha:=closed_k hJ hnd h.1 (fun _ h=>h) hcl
 exact ⟨ha,h.2.2.1,fun i j hi hj e hne h1 h2=>((hcl i (ha i hi)).adj hi hj hne h1 h2).2⟩
theorem cons_one {kd:Int×Int×Int×Int→Int} {L:List (Int×Int×Int)} {N N':Nat→M6} (hJ:Joined L) (hnd:L.Nodup) (h:Cons kd L N) (h':Cons kd L N'):∀ i,i<L.length→N i=N' i :=
 closed_all hJ hnd (fun i=>N i=N' i) (h.1.trans h'.1.symm) (fun i j hi hj hs ha=>by
  obtain ⟨e,h1,h2⟩:=ha.2
  rw [h.2 i j hi hj e (adj_ne ha) h1 h2,h'.2 i j hi hj e (adj_ne ha) h1 h2,hs])
theorem edge_bd {t:Int×Int×Int} {e:Int×Int×Int×Int} (h:hasT t e=true) (hb:(0≤t.1∧t.1≤8)∧(0≤t.2.1∧t.2.1≤8)∧(0≤t.2.2∧t.2.2≤3)):(0≤e.1∧e.1≤100)∧(0≤e.2.1∧e.2.1≤100)∧(0≤e.2.2.1∧e.2.2.1≤100)∧(0≤e.2.2.2∧e.2.2.2≤100):=by
 obtain ⟨x,y,k⟩:=t
 obtain ⟨p,q,r,s⟩:=e
 simp only [hasT] at h hb
 rw [hasB_or] at h
 obtain ⟨hx,hy,hk⟩:=hb
 have hk4:k=0∨k=1∨k=2∨k=3:=by omega
 dsimp only
 rcases hk4 with rfl | rfl | rfl | rfl <;> simp only [e0_0,e0_1,e0_2,e0_3,e1_0,e1_1,e1_2,e1_3,e2_0,e2_1,e2_2,e2_3] at h <;> omega
theorem len_of_all:∀ (n:Nat) (R:List Nat),(∀ i,i<n→i∈R)→n≤R.length
 | 0,_,_=>Nat.zero_le _
 | n+1,R,h=>by
  have hn:=h n (by omega)
  have h1:=len_of_all n (R.erase n) (fun i hi=>(List.mem_erase_of_ne (by omega)).2 (h i (by omega)))
  rw [List.length_erase_of_mem hn] at h1
  have:=List.length_pos_of_mem hn
  omega
end Go.Proofs.YtgpjaecgkkgehaaGreatDoor
