/- A part of the proof of stackLays_holds. -/
import Derived.Test.YtgpjaecgkkgehaaGreatDoorQlaa
import Derived.Shelf.Bits.Mul64
import Derived.Test.YtgpjaecgkkgehaaGreatDoorProg
import Derived.Shelf.Slices.Turned
set_option maxRecDepth 100000
set_option maxHeartbeats 40000000
namespace Go.Proofs.YtgpjaecgkkgehaaGreatDoor
open Go.RowKit
theorem Qc (w:World):Below w.heap.size w w:=Below.refl _ _
theorem Qb {w v:World} {o:Obj} (h:Below w.heap.size w v):Below w.heap.size w (v.alloc o):=h.alloc h.size _
theorem Qf {w v:World} (h:Below w.heap.size w v):Below w.heap.size w v.drew:=h.drew
theorem Qk {w v:World} {n:Nat} (h:Below w.heap.size w v):Below w.heap.size w (v.drewN n):=⟨h.os,h.tape,h.output,h.size,h.block⟩
theorem Qe {w v u:World} (h:Below w.heap.size w v) (k:Below v.heap.size v u):Below w.heap.size w u:=h.trans (k.mono h.size)
theorem Ql {w v:World} {p:Addr} {u:Value} (h:Below w.heap.size w v) (hp:w.heap.size≤p.block):Below w.heap.size w (v.setCell p u):=h.setCell hp _
def Mp (w:World) (g:Nat) (a b c d e f:Int):Prop :=
 w.cell? ⟨g,0,none⟩=some (.int .i64 a)∧w.cell? ⟨g,1,none⟩=some (.int .i64 b)∧w.cell? ⟨g,2,none⟩=some (.int .i64 c)∧w.cell? ⟨g,3,none⟩=some (.int .i64 d)∧w.cell? ⟨g,4,none⟩=some (.int .i64 e)∧w.cell? ⟨g,5,none⟩=some (.int .i64 f)
def Pt (w:World) (g:Nat) (x y:Int):Prop:=w.cell? ⟨g,0,none⟩=some (.int .i64 x)∧w.cell? ⟨g,1,none⟩=some (.int .i64 y)
def Tr (w:World) (g:Nat) (x y k:Int):Prop:=w.cell? ⟨g,0,none⟩=some (.int .i64 x)∧w.cell? ⟨g,1,none⟩=some (.int .i64 y)∧w.cell? ⟨g,2,none⟩=some (.int .i64 k)
def Fr (w:World) (g:Nat):Prop :=
 w.frozen? ⟨g,0,none⟩=false∧w.frozen? ⟨g,1,none⟩=false∧w.frozen? ⟨g,2,none⟩=false∧w.frozen? ⟨g,3,none⟩=false∧w.frozen? ⟨g,4,none⟩=false∧w.frozen? ⟨g,5,none⟩=false
theorem Qa {w wx:World} {a:Addr} {v:Value} (hb:Below w.heap.size w wx) (h:w.cell? a=some v):wx.cell? a=some v:=(hb.cell (World.block_lt_of_cell? _ _ h)).trans h
theorem Mp.kept {w wx:World} {g:Nat} {a b c d e f:Int} (h:Mp w g a b c d e f) (hb:Below w.heap.size w wx):Mp wx g a b c d e f:=by
 obtain ⟨h0,h1,h2,h3,h4,h5⟩:=h
 exact ⟨Qa hb h0,Qa hb h1,Qa hb h2,Qa hb h3,Qa hb h4,Qa hb h5⟩
theorem Pt.kept {w wx:World} {g:Nat} {a b:Int} (h:Pt w g a b) (hb:Below w.heap.size w wx):Pt wx g a b:=⟨Qa hb h.1,Qa hb h.2⟩
theorem Tr.kept {w wx:World} {g:Nat} {a b c:Int} (h:Tr w g a b c) (hb:Below w.heap.size w wx):Tr wx g a b c:=⟨Qa hb h.1,Qa hb h.2.1,Qa hb h.2.2⟩
theorem Fr.kept {w wx:World} {g:Nat} (h:Fr w g) (hg:g<w.heap.size) (hb:Below w.heap.size w wx):Fr wx g:=by
 obtain ⟨h0,h1,h2,h3,h4,h5⟩:=h
 exact ⟨(hb.frozen (p:=⟨g,0,none⟩) hg).trans h0,(hb.frozen (p:=⟨g,1,none⟩) hg).trans h1,(hb.frozen (p:=⟨g,2,none⟩) hg).trans h2,(hb.frozen (p:=⟨g,3,none⟩) hg).trans h3,(hb.frozen (p:=⟨g,4,none⟩) hg).trans h4,(hb.frozen (p:=⟨g,5,none⟩) hg).trans h5⟩
theorem Mp.lt {w:World} {g:Nat} {a b c d e f:Int} (h:Mp w g a b c d e f):g<w.heap.size:=World.block_lt_of_cell? (w:=w) (a:=⟨g,0,none⟩) h.1
theorem Tr.lt {w:World} {g:Nat} {a b c:Int} (h:Tr w g a b c):g<w.heap.size:=World.block_lt_of_cell? (w:=w) (a:=⟨g,0,none⟩) h.1
theorem Qh {w:World} {o:Obj} {a:Addr} {v:Value} (h:w.cell? a=some v):(w.alloc o).cell? a=some v:=(World.cell?_alloc_lt _ _ _ (World.block_lt_of_cell? _ _ h)).trans h
theorem Qi {w:World} {a:Addr} {v:Value} (h:w.cell? a=some v):w.drew.cell? a=some v:=h
abbrev Bl (w w':World):Prop:=Below w.heap.size w w'
theorem bk {w:World} {a:Addr} {v:Value} (h:w.cell? a=some v):a.block<w.heap.size:=World.block_lt_of_cell? _ _ h
def mapB (a b c d e f:Int):Bool:=((unitB a && decide (b=0) && decide (c=0) && unitB d) || (decide (a=0) && unitB b && unitB c && decide (d=0))) && evenB e && evenB f
theorem mayMap_any (a b c d e f:Int) (w:World) :
  Calls Tryz.prog 135 #[.agg #[.int .i64 a,.int .i64 b,.int .i64 c,.int .i64 d,.int .i64 e,.int .i64 f]] w fun r w'=>r=.returned (.bool (mapB a b c d e f))∧∃o,w'=w.alloc o:=by
 go_enter Tryz.func135,Tryz.ntmps135
 go_wp2_with (first|(go_at_call 157;refine (unit_any _ _).mono ?_;rintro e w' ⟨rfl,rfl⟩)|(go_at_call 149;refine (evenPlace_any _ _).mono ?_;rintro e w' ⟨rfl,rfl⟩))
 all_goals
  go_ret
  exact ⟨Qz (by simp_all [mapB]),_,rfl⟩
end Go.Proofs.YtgpjaecgkkgehaaGreatDoor
namespace Go.Proofs
open Go.Shelf
def Tryz.lays212_ren:Go.Shelf.Ren:=⟨fun | 212=>121 | 263=>150 | 264=>151 | n=>n,fun | 46=>182 | 51=>210 | 146=>211 | 53=>213 | 148=>214 | n=>n,fun | n=>n⟩
theorem Tryz.lays212:Go.Proofs.Lays.n212 Tryz.prog Tryz.lays212_ren:={
 mixed:=by kernel_rfl
 f212:=Tryz.func121.trans (congrArg some (by kernel_rfl))
 f263:=Tryz.func150.trans (congrArg some (by kernel_rfl))
 f264:=Tryz.func151.trans (congrArg some (by kernel_rfl))
 t46:=Tryz.underlying182
 a46:=Tryz.isAgg182
 z46:=Tryz.sizeOf182
 v46:=Tryz.zeroValue182
 t51:=Tryz.underlying210
 a51:=Tryz.isAgg210
 z51:=Tryz.sizeOf210
 v51:=Tryz.zeroValue210
 t53:=Tryz.underlying213
 a53:=Tryz.isAgg213
 z53:=Tryz.sizeOf213
 v53:=Tryz.zeroValue213
 t146:=Tryz.underlying211
 a146:=Tryz.isAgg211
 z146:=Tryz.sizeOf211
 v146:=Tryz.zeroValue211
 t148:=Tryz.underlying214
 a148:=Tryz.isAgg214
 z148:=Tryz.sizeOf214
 v148:=Tryz.zeroValue214 }
open Go.RowKit Go.Lib in
theorem Tryz.bits_Mul (x y:Nat) (hx:x<18446744073709551616) (hy:y<18446744073709551616) (w:World) :
  Calls Tryz.prog 121 #[.int .u64 x,.int .u64 y] w fun e w'=>e=.returned (.tuple #[.int .u64 ((x*y / 18446744073709551616:Nat):Int),.int .u64 ((x*y % 18446744073709551616:Nat):Int)])∧w'=w:=Any.bits_Mul Tryz.lays212 x y hx hy w
end Go.Proofs
namespace Go.Proofs
open Go.Shelf
def Tryz.lays113_ren:Go.Shelf.Ren:=⟨fun | 113=>30 | n=>n,fun | 28=>22 | 3=>3 | 4=>4 | 9=>9 | 20=>20 | 0=>0 | n=>n,fun | n=>n⟩
theorem Tryz.lays113:Go.Proofs.Lays.n113 Tryz.prog Tryz.lays113_ren:={
 mixed:=by kernel_rfl
 f113:=Tryz.func30.trans (congrArg some (by kernel_rfl))
 t0:=Tryz.underlying0
 a0:=Tryz.isAgg0
 z0:=Tryz.sizeOf0
 v0:=Tryz.zeroValue0
 t3:=Tryz.underlying3
 a3:=Tryz.isAgg3
 z3:=Tryz.sizeOf3
 v3:=Tryz.zeroValue3
 t4:=Tryz.underlying4
 a4:=Tryz.isAgg4
 z4:=Tryz.sizeOf4
 v4:=Tryz.zeroValue4
 t9:=Tryz.underlying9
 a9:=Tryz.isAgg9
 z9:=Tryz.sizeOf9
 v9:=Tryz.zeroValue9
 t20:=Tryz.underlying20
 a20:=Tryz.isAgg20
 z20:=Tryz.sizeOf20
 v20:=Tryz.zeroValue20
 t28:=Tryz.underlying22
 a28:=Tryz.isAgg22
 z28:=Tryz.sizeOf22
 v28:=Tryz.zeroValue22 }
open Go.Lib in
theorem Tryz.slices_Max_int (b off n c:Nat) (zs:List Int) (w:World) (hn:0<n) (hz:n≤zs.length) (hbig:n≤9223372036854775807) (hc:∀j,j<zs.length→w.cell? ⟨b,off+j,none⟩=some (.int .i64 (zs.getD j 0))) :
  Calls Tryz.prog 30 #[.slice (some ⟨b,off,none⟩) n c] w fun e w'=>e=.returned (.int .i64 (Lib.maxOf (zs.take n)))∧w'=w:=Any.slices_Max_int Tryz.lays113 b off n c zs w hn hz hbig hc
end Go.Proofs
namespace Go.Proofs.YtgpjaecgkkgehaaGreatDoor
theorem sorted_one {α:Type} {lt : α → α→Prop} (hi:∀x,¬lt x x) (ht:∀x y z,lt x y→lt y z→lt x z):∀{l m:List α},l.Pairwise lt→m.Pairwise lt→(∀x,x∈l↔x∈m)→l=m
 | [],[],_,_,_=>rfl
 | [],b :: m,_,_,h=>by
  have:=(h b).2 (by simp)
  simp at this
 | a :: l,[],_,_,h=>by
  have:=(h a).1 (by simp)
  simp at this
 | a :: l,b :: m,h1,h2,h=>by
  rw [List.pairwise_cons] at h1 h2
  have e:a=b:=by
   have h3:=(h a).1 (by simp)
   have h4:=(h b).2 (by simp)
   rcases List.mem_cons.1 h3 with e|h3
   ·exact e
   ·rcases List.mem_cons.1 h4 with e|h4
    ·exact e.symm
    ·exact absurd (ht _ _ _ (h2.1 a h3) (h1.1 b h4)) (hi b)
  subst e
  rw [sorted_one hi ht h1.2 h2.2 fun x=>?_]
  constructor
  ·intro hx
   rcases List.mem_cons.1 ((h x).1 (List.mem_cons_of_mem _ hx)) with e|h3
   ·subst e
    exact absurd (h1.1 x hx) (hi x)
   ·exact h3
  ·intro hx
   rcases List.mem_cons.1 ((h x).2 (List.mem_cons_of_mem _ hx)) with e|h3
   ·subst e
    exact absurd (h2.1 x hx) (hi x)
   ·exact h3
def ltT (a b:Int×Int×Int):Prop:=a.2.1<b.2.1∨(a.2.1=b.2.1∧(a.1<b.1∨(a.1=b.1∧a.2.2<b.2.2)))
theorem J3 (a:Int×Int×Int):¬ltT a a:=by unfold ltT;omega
theorem ltT_trans (a b c:Int×Int×Int) (h1:ltT a b) (h2:ltT b c):ltT a c:=by unfold ltT at *;omega
def Heap (n:Nat) (pl:Nat→Int×Int×Int) (h:Nat→Int) (S:List ((Int×Int×Int)×List Nat)):Prop :=
 S.Pairwise (fun a b=>ltT a.1 b.1)∧(∀s∈S,s.2≠[]∧s.2.Pairwise (fun i j=>h i<h j)∧∀j∈s.2,j<n∧pl j=s.1)∧∀j,j<n→∃s∈S,j∈s.2
theorem pair_same {S:List ((Int×Int×Int)×List Nat)} (h:S.Pairwise (fun a b=>ltT a.1 b.1)):∀{s t},s∈S→t∈S→s.1=t.1→s=t:=by
 induction h with
 | nil=>intro s t hs;simp at hs
 | cons h1 _ ih =>
  intro s t hs ht e
  rcases List.mem_cons.1 hs with e1|hs1
  ·rcases List.mem_cons.1 ht with e2|ht1
   ·rw [e1,e2]
   ·have:=h1 t ht1
    rw [←e1,e] at this
    exact absurd this (J3 _)
  ·rcases List.mem_cons.1 ht with e2|ht1
   ·have:=h1 s hs1
    rw [←e2,e] at this
    exact absurd this (J3 _)
   ·exact ih hs1 ht1 e
theorem Heap.mem {n:Nat} {pl:Nat→Int×Int×Int} {h:Nat→Int} {S:List ((Int×Int×Int)×List Nat)} (H:Heap n pl h S) {s} (hs:s∈S) (k:Nat):k∈s.2↔k<n∧pl k=s.1:=by
 constructor
 ·exact (H.2.1 s hs).2.2 k
 ·rintro ⟨h1,h2⟩
  obtain ⟨t,ht,hk⟩:=H.2.2 k h1
  have:=((H.2.1 t ht).2.2 k hk).2
  rw [←pair_same H.1 ht hs (this.symm.trans h2)]
  exact hk
theorem Heap.sub {n:Nat} {pl:Nat→Int×Int×Int} {h:Nat→Int} {S T:List ((Int×Int×Int)×List Nat)} (H:Heap n pl h S) (K:Heap n pl h T) {s} (hs:s∈S):s∈T:=by
 obtain ⟨h1,h2,h3⟩:=H.2.1 s hs
 obtain ⟨j,hj⟩:=List.exists_mem_of_ne_nil _ h1
 obtain ⟨t,ht,hk⟩:=K.2.2 j (h3 j hj).1
 have e1:t.1=s.1:=((K.2.1 t ht).2.2 j hk).2.symm.trans (h3 j hj).2
 have e2:t.2=s.2:=sorted_one (lt:=fun i j=>h i<h j) (fun x=>by omega) (fun x y z=>by omega) (K.2.1 t ht).2.1 h2 fun k=>by
  rw [K.mem ht,H.mem hs,e1]
 rw [←show t=s from Prod.ext e1 e2]
 exact ht
theorem Heap.one {n:Nat} {pl:Nat→Int×Int×Int} {h:Nat→Int} {S T:List ((Int×Int×Int)×List Nat)} (H:Heap n pl h S) (K:Heap n pl h T):S=T :=
 sorted_one (lt:=fun a b=>ltT a.1 b.1) (fun _=>J3 _) (fun _ _ _=>ltT_trans _ _ _) H.1 K.1 fun _=>⟨H.sub K,K.sub H⟩
def ltB (a b:Int×Int×Int):Bool:=decide (a.2.1<b.2.1∨(a.2.1=b.2.1∧(a.1<b.1∨(a.1=b.1∧a.2.2<b.2.2))))
theorem ltB_iff {a b:Int×Int×Int}:ltB a b=true↔ltT a b:=by simp [ltB,ltT]
theorem ltT_three {a b:Int×Int×Int} (h1:¬ltT a b) (h2:a≠b):ltT b a:=by
 unfold ltT at *
 have h2':¬(a.1=b.1∧a.2.1=b.2.1∧a.2.2=b.2.2):=fun e=>h2 (Prod.ext e.1 (Prod.ext e.2.1 e.2.2))
 omega
def insN (h:Nat→Int) (i:Nat):List Nat→List Nat
 | []=>[i]
 | j :: r=>if h j<h i then j :: insN h i r else i :: j :: r
theorem Xm {h:Nat→Int} {i k:Nat}:∀{l:List Nat},k∈insN h i l↔k=i∨k∈l
 | []=>by simp [insN]
 | j :: r=>by
  unfold insN
  split
  ·rw [List.mem_cons,Xm,List.mem_cons]
   constructor
   ·rintro (h|h|h)<;>simp [h]
   ·rintro (h|h|h)<;>simp [h]
  ·simp
theorem insN_sorted {h:Nat→Int} {i:Nat}:∀{l:List Nat},l.Pairwise (fun a b=>h a<h b)→(∀j∈l,h j≠h i)→(insN h i l).Pairwise (fun a b=>h a<h b)
 | [],_,_=>by simp [insN]
 | j :: r,hp,hn=>by
  rw [List.pairwise_cons] at hp
  unfold insN
  split
  ·rename_i c
   rw [List.pairwise_cons]
   refine ⟨fun k hk=>?_,insN_sorted hp.2 fun k hk=>hn k (List.mem_cons_of_mem _ hk)⟩
   rcases Xm.1 hk with e|hk
   ·rw [e]
    exact c
   ·exact hp.1 k hk
  ·rename_i c
   rw [List.pairwise_cons,List.pairwise_cons]
   have hj:=hn j (by simp)
   refine ⟨fun k hk=>?_,hp.1,hp.2⟩
   rcases List.mem_cons.1 hk with e|hk
   ·rw [e]
    omega
   ·have:=hp.1 k hk
    omega
def insS (h:Nat→Int) (i:Nat) (at_:Int×Int×Int):List ((Int×Int×Int)×List Nat)→List ((Int×Int×Int)×List Nat)
 | []=>[(at_,[i])]
 | s :: r=>if ltB s.1 at_=true then s :: insS h i at_ r else if s.1=at_ then (s.1,insN h i s.2) :: r else (at_,[i]) :: s :: r
theorem Xl {h:Nat→Int} {i:Nat} {at_:Int×Int×Int}:∀{S:List ((Int×Int×Int)×List Nat)},S.Pairwise (fun a b=>ltT a.1 b.1)→∀t,t∈insS h i at_ S↔(t∈S∧t.1≠at_)∨(t.1=at_∧((∃s∈S,s.1=at_∧t.2=insN h i s.2)∨(t.2=[i]∧∀s∈S,s.1≠at_)))
 | [],_,t=>by
  simp only [insS,List.mem_singleton,List.not_mem_nil,false_and,false_or,exists_false,false_implies,implies_true,and_true]
  constructor
  ·rintro rfl
   exact ⟨rfl,rfl⟩
  ·rintro ⟨h1,h2⟩
   exact Prod.ext h1 h2
 | s :: r,hp,t=>by
  rw [List.pairwise_cons] at hp
  unfold insS
  split
  ·rename_i c
   rw [ltB_iff] at c
   have hs:s.1≠at_:=fun e=>J3 _ (e ▸ c)
   rw [List.mem_cons,Xl hp.2]
   constructor
   ·rintro (rfl|⟨h1,h2⟩|⟨h1,(⟨u,h2,h3⟩|⟨h2,h3⟩)⟩)
    ·exact Or.inl ⟨by simp,hs⟩
    ·exact Or.inl ⟨List.mem_cons_of_mem _ h1,h2⟩
    ·exact Or.inr ⟨h1,Or.inl ⟨u,List.mem_cons_of_mem _ h2,h3⟩⟩
    ·refine Or.inr ⟨h1,Or.inr ⟨h2,fun u hu=>?_⟩⟩
     rcases List.mem_cons.1 hu with e|hu
     ·rw [e]
      exact hs
     ·exact h3 u hu
   ·rintro (⟨h1,h2⟩|⟨h1,(⟨u,h2,h3,h4⟩|⟨h2,h3⟩)⟩)
    ·rcases List.mem_cons.1 h1 with e|h1
     ·exact Or.inl e
     ·exact Or.inr (Or.inl ⟨h1,h2⟩)
    ·rcases List.mem_cons.1 h2 with e|h2
     ·exact absurd (e ▸ h3) hs
     ·exact Or.inr (Or.inr ⟨h1,Or.inl ⟨u,h2,h3,h4⟩⟩)
    ·exact Or.inr (Or.inr ⟨h1,Or.inr ⟨h2,fun u hu=>h3 u (List.mem_cons_of_mem _ hu)⟩⟩)
  ·rename_i c
   rw [ltB_iff] at c
   split
   ·rename_i c2
    have hr:∀u∈r,u.1≠at_:=fun u hu e=>J3 at_ (by have:=hp.1 u hu;rw [e,c2] at this;exact this)
    rw [List.mem_cons]
    constructor
    ·rintro (rfl|h1)
     ·exact Or.inr ⟨c2,Or.inl ⟨s,by simp,c2,rfl⟩⟩
     ·exact Or.inl ⟨List.mem_cons_of_mem _ h1,hr t h1⟩
    ·rintro (⟨h1,h2⟩|⟨h1,(⟨u,h2,h3,h4⟩|⟨h2,h3⟩)⟩)
     ·rcases List.mem_cons.1 h1 with e|h1
      ·exact absurd (e ▸ c2) h2
      ·exact Or.inr h1
     ·rcases List.mem_cons.1 h2 with e|h2
      ·rw [e] at h4
       exact Or.inl (Prod.ext (h1.trans c2.symm) h4)
      ·exact absurd h3 (hr u h2)
     ·exact absurd c2 (h3 s (by simp))
   ·rename_i c2
    have hlt:=ltT_three c c2
    have hall:∀u∈s :: r,u.1≠at_:=fun u hu e=>by
     rcases List.mem_cons.1 hu with e2|hu
     ·exact c2 (e2 ▸ e)
     ·have:=ltT_trans _ _ _ hlt (hp.1 u hu)
      rw [e] at this
      exact J3 _ this
    rw [List.mem_cons]
    constructor
    ·rintro (rfl|h1)
     ·exact Or.inr ⟨rfl,Or.inr ⟨rfl,hall⟩⟩
     ·exact Or.inl ⟨h1,hall t h1⟩
    ·rintro (⟨h1,h2⟩|⟨h1,(⟨u,h2,h3,h4⟩|⟨h2,h3⟩)⟩)
     ·exact Or.inr h1
     ·exact absurd h3 (hall u h2)
     ·exact Or.inl (Prod.ext h1 h2)
theorem insS_sorted {h:Nat→Int} {i:Nat} {at_:Int×Int×Int}:∀{S:List ((Int×Int×Int)×List Nat)},S.Pairwise (fun a b=>ltT a.1 b.1)→(insS h i at_ S).Pairwise (fun a b=>ltT a.1 b.1)
 | [],_=>by simp [insS]
 | s :: r,hp=>by
  have hp0:=hp
  rw [List.pairwise_cons] at hp
  unfold insS
  split
  ·rename_i c
   rw [ltB_iff] at c
   rw [List.pairwise_cons]
   refine ⟨fun t ht=>?_,insS_sorted hp.2⟩
   rcases (Xl hp.2 t).1 ht with ⟨h1,_⟩|⟨h1,_⟩
   ·exact hp.1 t h1
   ·rw [h1]
    exact c
  ·rename_i c
   rw [ltB_iff] at c
   split
   ·rw [List.pairwise_cons]
    exact hp
   ·rename_i c2
    have hlt:=ltT_three c c2
    rw [List.pairwise_cons]
    refine ⟨fun t ht=>?_,hp0⟩
    rcases List.mem_cons.1 ht with e|ht
    ·rw [e]
     exact hlt
    ·exact ltT_trans _ _ _ hlt (hp.1 t ht)
theorem Heap.ins {n:Nat} {pl:Nat→Int×Int×Int} {h:Nat→Int} {S:List ((Int×Int×Int)×List Nat)} (H:Heap n pl h S) (hd:∀j,j<n→pl j=pl n→h j≠h n):Heap (n+1) pl h (insS h n (pl n) S):=by
 refine ⟨insS_sorted H.1,fun t ht=>?_,fun j hj=>?_⟩
 ·rcases (Xl H.1 t).1 ht with ⟨h1,_⟩|⟨h1,(⟨s,h2,h3,h4⟩|⟨h2,_⟩)⟩
  ·obtain ⟨a,b,c⟩:=H.2.1 t h1
   exact ⟨a,b,fun j hj=>⟨by have:=(c j hj).1;omega,(c j hj).2⟩⟩
  ·obtain ⟨_,b,c⟩:=H.2.1 s h2
   rw [h4,h1]
   refine ⟨fun e=>?_,insN_sorted b fun j hj=>hd j (c j hj).1 ((c j hj).2.trans h3),fun j hj=>?_⟩
   ·have:n∈insN h n s.2:=Xm.2 (Or.inl rfl)
    rw [e] at this
    simp at this
   ·rcases Xm.1 hj with e|hj
    ·rw [e]
     exact ⟨by omega,rfl⟩
    ·exact ⟨by have:=(c j hj).1;omega,(c j hj).2.trans h3⟩
  ·rw [h2,h1]
   refine ⟨by simp,by simp,fun j hj=>?_⟩
   simp at hj
   rw [hj]
   exact ⟨by omega,rfl⟩
 ·by_cases e:pl j=pl n
  ·by_cases hs:∃s∈S,s.1=pl n
   ·obtain ⟨s,h1,h2⟩:=hs
    refine ⟨(pl n,insN h n s.2),(Xl H.1 _).2 (Or.inr ⟨rfl,Or.inl ⟨s,h1,h2,rfl⟩⟩),Xm.2 ?_⟩
    by_cases ej:j=n
    ·exact Or.inl ej
    ·exact Or.inr ((H.mem h1 j).2 ⟨by omega,e.trans h2.symm⟩)
   ·have hs':∀s∈S,s.1≠pl n:=fun s h1 h2=>hs ⟨s,h1,h2⟩
    refine ⟨(pl n,[n]),(Xl H.1 _).2 (Or.inr ⟨rfl,Or.inr ⟨rfl,hs'⟩⟩),?_⟩
    by_cases ej:j=n
    ·simp [ej]
    ·obtain ⟨s,h1,h2⟩:=H.2.2 j (by omega)
     exact absurd (((H.2.1 s h1).2.2 j h2).2.symm.trans e) (hs' s h1)
  ·have hj':j<n:=by
    rcases Nat.lt_or_ge j n with h'|h'
    ·exact h'
    ·have:j=n:=by omega
     rw [this] at e
     exact absurd rfl e
   obtain ⟨s,h1,h2⟩:=H.2.2 j hj'
   exact ⟨s,(Xl H.1 s).2 (Or.inl ⟨h1,fun e2=>e (((H.2.1 s h1).2.2 j h2).2.trans e2)⟩),h2⟩
theorem heap_nil (pl:Nat→Int×Int×Int) (h:Nat→Int):Heap 0 pl h []:=⟨by simp,by simp,fun j hj=>by omega⟩
end Go.Proofs.YtgpjaecgkkgehaaGreatDoor
