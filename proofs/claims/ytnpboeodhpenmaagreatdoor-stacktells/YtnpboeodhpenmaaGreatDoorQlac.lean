/- A part of it. -/
import Derived.Test.YtnpboeodhpenmaaGreatDoorQlaa
import Derived.Shelf.Bits.Mul64
import Derived.Shelf.Slices.Turned
set_option maxRecDepth 100000
set_option maxHeartbeats 40000000
namespace Go.Proofs.YtnpboeodhpenmaaGreatDoor
open Go.RowKit
def mapB (a b c d e f:Int):Bool:=((unitB a && decide (b=0) && decide (c=0) && unitB d) || (decide (a=0) && unitB b && unitB c && decide (d=0))) && evenB e && evenB f
theorem Xe (a b c d e f:Int) (w:World) :
  Cl 87 #[.agg #[I a,I b,I c,I d,I e,I f]] w fun r w'=>r=.returned (.bool (mapB a b c d e f))∧∃ o,w'=w.alloc o:=by
 go_enter Tryz.func87,Tryz.ntmps87;go_wp2_with (first | (go_at_call 174;refine (unit_any _ _).mono ?_;rintro e w' ⟨rfl,rfl⟩) | (go_at_call 175;refine (Ul _ _).mono ?_;rintro e w' ⟨rfl,rfl⟩))
 all_goals
  go_ret;exact ⟨Qv (by simp_all [mapB]),_,rfl⟩
theorem line_bd {v c:Int} (h:lineB v c=true):0≤v∧v≤3∧-1000000≤c∧c≤1000000∧c % 2=0:=by simpa [lineB] using h
def mA (v:Int):Int:=if v=0 then -1 else if v=1 then 1 else 0
def mB (v:Int):Int:=if v=0∨v=1 then 0 else if v=2 then -1 else 1
def mD (v:Int):Int:=if v=0 then 1 else if v=1 then -1 else 0
def mE (v c:Int):Int:=if v=0 then 2*c else if v=1 then 0 else c
def mF (v c:Int):Int:=if v=0 then 0 else if v=1 then 2*c else if v=2 then c else -c
theorem ret_agg6 {a b c d e f g h i j k l:Int} (h1:a=g) (h2:b=h) (h3:c=i) (h4:d=j) (h5:e=k) (h6:f=l) :
  Ending.returned (.agg #[I a,I b,I c,I d,I e,I f])=.returned (.agg #[I g,I h,I i,I j,I k,I l]):=by subst h1 h2 h3 h4 h5 h6;rfl
theorem mirror_any (v c:Int) (w:World) (h:lineB v c=true) :
  Cl 114 #[.agg #[I v,I c]] w fun r w'=>r=.returned (.agg #[I (mA v),I (mB v),I (mB v),I (mD v),I (mE v c),I (mF v c)])∧∃ o1 o2,w'=(w.alloc o1).alloc o2:=by
 obtain ⟨h0,h3,b1,b2,_⟩:=line_bd h;have hv:v=0∨v=1∨v=2∨v=3:=γ;clear h;rcases hv with rfl | rfl | rfl | rfl
 all_goals
  go_enter Tryz.func114,Tryz.ntmps114;go_wp2;refine bodyPost_ret (v:=.agg #[_,_,_,_,_,_]) (by simp [results,Tryz.results114,go_sem];exact ⟨rfl,rfl,rfl,rfl,rfl,rfl⟩) rfl ⟨?_,_,_,rfl⟩;exact ret_agg6 (by simp [mA]) (by simp [mB]) (by simp [mB]) (by simp [mD]) (by simp [mE]) (by simp [mF])
theorem mirrorOf_any (v c:Int) (w:World) (h:lineB v c=true) :
  Cl 126 #[.agg #[I v,I c]] w fun r w'=>r=.returned (.agg #[I (mA v),I (mB v),I (mB v),I (mD v),I (mE v c),I (mF v c)])∧∃ o1 o2,w'=(w.alloc o1).alloc o2:=by
 obtain ⟨h0,h3,b1,b2,_⟩:=line_bd h;have hv:v=0∨v=1∨v=2∨v=3:=γ;clear h;rcases hv with rfl | rfl | rfl | rfl
 all_goals
  go_enter Tryz.func126,Tryz.ntmps126;go_wp2;refine bodyPost_ret (v:=.agg #[_,_,_,_,_,_]) (by simp [results,Tryz.results126,go_sem];exact ⟨rfl,rfl,rfl,rfl,rfl,rfl⟩) rfl ⟨?_,_,_,rfl⟩;exact ret_agg6 (by simp [mA]) (by simp [mB]) (by simp [mB]) (by simp [mD]) (by simp [mE]) (by simp [mF])
theorem sized_yes (a b c d e f:Int) (w:World) (h:mapB a b c d e f=true) :
  Cl 113 #[.agg #[I a,I b,I c,I d,I e,I f]] w fun r w'=>r=.returned (.tuple #[.agg #[I a,I b,I c,I d,I e,I f],I 0])∧∃ o1 o2 o3,w'=((w.alloc o1).alloc o2).alloc o3:=by
 go_enter Tryz.func113,Tryz.ntmps113;go_wp2_with (go_at_call 87;refine (Xe _ _ _ _ _ _ _).mono ?_;rintro e w' ⟨rfl,o1,rfl⟩)
 exact bodyPost_ret (v:=.tuple #[.agg #[I a,I b,I c,I d,I e,I f],I 0]) (by simp [results,Tryz.results113,go_sem]) rfl ⟨rfl,_,_,_,rfl⟩
theorem sized_no (a b c d e f:Int) (w:World) (h:mapB a b c d e f=false) :
  Cl 113 #[.agg #[I a,I b,I c,I d,I e,I f]] w fun r w'=>r=.returned (.tuple #[.agg #[I 0,I 0,I 0,I 0,I 0,I 0],I 2])∧∃ o1 o2 o3,w'=((w.alloc o1).alloc o2).alloc o3:=by
 go_enter Tryz.func113,Tryz.ntmps113;go_wp2_with (go_at_call 87;refine (Xe _ _ _ _ _ _ _).mono ?_;rintro e w' ⟨rfl,o1,rfl⟩)
 exact bodyPost_ret (v:=.tuple #[.agg #[I 0,I 0,I 0,I 0,I 0,I 0],I 2]) (by simp [results,Tryz.results113,go_sem]) rfl ⟨rfl,_,_,_,rfl⟩
theorem Jf (fn:Go.Fn) (first a:Array Value) (w:World):(Instr.makeFunc fn first a).run Tryz.prog w=.ok (.func fn first a) w:=rfl
theorem mirror1_yes (v c:Int) (p:Nat) (w:World) (h:lineB v c=true) (f:mapB (mA v) (mB v) (mB v) (mD v) (mE v c) (mF v c)=true) (a:At w p 0 (I v)) (g:At w p 1 (I c)) :
  Cl 112 #[.pointer (Az p)] w fun r w'=>r=.returned (.tuple #[.agg #[I (mA v),I (mB v),I (mB v),I (mD v),I (mE v c),I (mF v c)],I 0])∧∃ o1 o2 o3 b d o6,w'=(((((w.alloc o1).alloc o2).alloc o3).alloc b).alloc d).alloc o6:=by
 have i:=bk a;go_enter Tryz.func112,Tryz.ntmps112;go_wp2_with (first | (go_at_call 114;refine (mirror_any _ _ _ h).mono ?_;rintro e w' ⟨rfl,o1,o2,rfl⟩) | (go_at_call 113;refine (sized_yes _ _ _ _ _ _ _ f).mono ?_;rintro e w' ⟨rfl,o3,b,d,rfl⟩))
 exact bodyPost_ret (v:=.tuple #[.agg #[I (mA v),I (mB v),I (mB v),I (mD v),I (mE v c),I (mF v c)],I 0]) (by simp [results,Tryz.results112,go_sem,Ca]) rfl ⟨rfl,_,_,_,_,_,_,rfl⟩
theorem Qah (v c:Int) (p:Nat) (w:World) (h:lineB v c=true) (g:mapB (mA v) (mB v) (mB v) (mD v) (mE v c) (mF v c)=true) (a:At w p 0 (I v)) (i:At w p 1 (I c)) :
  Cl 111 #[.bool true,.func (.func 112) #[] #[.pointer (Az p)]] w fun r w'=>r=.returned (.tuple #[.agg #[I (mA v),I (mB v),I (mB v),I (mD v),I (mE v c),I (mF v c)],I 0])∧∃ o1 o2 o3 b d f o7 o8 o9,w'=((((((((w.alloc o1).alloc o2).alloc o3).alloc b).alloc d).alloc f).alloc o7).alloc o8).alloc o9:=by
 have j:=bk a;go_enter Tryz.func111,Tryz.ntmps111;go_wp2_with (go_at_call 112;refine (mirror1_yes v c p _ h g (by simp [go_sem,Ca, *]) (by simp [go_sem,Ca, *])).mono ?_;rintro e w' ⟨rfl,o1,o2,o3,b,d,f,rfl⟩)
 exact bodyPost_ret (v:=.tuple #[.agg #[I (mA v),I (mB v),I (mB v),I (mD v),I (mE v c),I (mF v c)],I 0]) (by simp [results,Tryz.results111,go_sem,Ca]) rfl ⟨rfl,_,_,_,_,_,_,_,_,_,rfl⟩
theorem Kf (v c:Int) (w:World) (h:lineB v c=true) (a:mapB (mA v) (mB v) (mB v) (mD v) (mE v c) (mF v c)=true) :
  Rt 45 #[.agg #[I v,I c]] w (.tuple #[.agg #[I (mA v),I (mB v),I (mB v),I (mD v),I (mE v c),I (mF v c)],I 0]):=by
 have b:=Jf;go_enter Tryz.func45,Tryz.ntmps45;go_wp2_with (first | (go_at_call 92;refine (mayLine_any _ _ _).mono ?_;rintro e w1 ⟨rfl,o0,rfl⟩) | (go_at_call 111;refine (Qah v c _ _ h a (by simp [go_sem, *]) (by simp [go_sem, *])).mono ?_;rintro e w' ⟨rfl,o1,o2,o3,d,f,g,i,j,k,rfl⟩))
 refine bodyPost_ret (v:=.tuple #[.agg #[I (mA v),I (mB v),I (mB v),I (mD v),I (mE v c),I (mF v c)],I 0]) (by simp [results,Tryz.results45,go_sem,Ca]) rfl ⟨rfl, ?_⟩;repeat (first | exact Below.refl _ _ | refine Below.alloc ?_ (by first | omega | (simp;omega) | (simp;done)) _)
end Go.Proofs.YtnpboeodhpenmaaGreatDoor
namespace Go.Proofs
open Go.Shelf
def Tryz.lays212_ren:Go.Shelf.Ren:=⟨fun | 212=>248 | 263=>276 | 264=>277 | n=>n,fun | 46=>195 | 51=>284 | 146=>349 | 53=>286 | 148=>351 | n=>n,fun | n=>n⟩
theorem Tryz.lays212:Go.Proofs.Lays.n212 Tryz.prog Tryz.lays212_ren:={
 mixed:=by kernel_rfl
 f212:=Tryz.func248.trans (congrArg some (by kernel_rfl))
 f263:=Tryz.func276.trans (congrArg some (by kernel_rfl))
 f264:=Tryz.func277.trans (congrArg some (by kernel_rfl))
 t46:=Tryz.underlying195
 a46:=Tryz.isAgg195
 z46:=Tryz.sizeOf195
 v46:=Tryz.zeroValue195
 t51:=Tryz.underlying284
 a51:=Tryz.isAgg284
 z51:=Tryz.sizeOf284
 v51:=Tryz.zeroValue284
 t53:=Tryz.underlying286
 a53:=Tryz.isAgg286
 z53:=Tryz.sizeOf286
 v53:=Tryz.zeroValue286
 t146:=Tryz.underlying349
 a146:=Tryz.isAgg349
 z146:=Tryz.sizeOf349
 v146:=Tryz.zeroValue349
 t148:=Tryz.underlying351
 a148:=Tryz.isAgg351
 z148:=Tryz.sizeOf351
 v148:=Tryz.zeroValue351 }
open Go.RowKit Go.Lib in
theorem Tryz.bits_Mul (x y:Nat) (hx:x<18446744073709551616) (hy:y<18446744073709551616) (w:World) :
  Calls Tryz.prog 248 #[.int .u64 x,.int .u64 y] w fun e w'=>e=.returned (.tuple #[.int .u64 ((x*y / 18446744073709551616:Nat):Int),.int .u64 ((x*y % 18446744073709551616:Nat):Int)])∧w'=w:=Any.bits_Mul Tryz.lays212 x y hx hy w
end Go.Proofs
namespace Go.Proofs
open Go.Shelf
def Tryz.lays113_ren:Go.Shelf.Ren:=⟨fun | 113=>161 | n=>n,fun | 28=>22 | 3=>3 | 4=>4 | 9=>9 | 20=>20 | 0=>0 | n=>n,fun | n=>n⟩
theorem Tryz.lays113:Go.Proofs.Lays.n113 Tryz.prog Tryz.lays113_ren:={
 mixed:=by kernel_rfl
 f113:=Tryz.func161.trans (congrArg some (by kernel_rfl))
 t0:=Tryz.underlying0
 a0:=Tryz.isAgg0
 z0:=Tryz.sizeOf0
 v0:=Tryz.zeroValue0
 t3:=Tryz.underlying3
 a3:=Tryz.isAgg3
 z3:=Tryz.sizeOf3
 v3:=Tryz.zeroValue3
 t4:=Tryz.underlying4
 a4:=Tryz.isAgg4
 z4:=Tryz.sizeOf4
 v4:=Tryz.zeroValue4
 t9:=Tryz.underlying9
 a9:=Tryz.isAgg9
 z9:=Tryz.sizeOf9
 v9:=Tryz.zeroValue9
 t20:=Tryz.underlying20
 a20:=Tryz.isAgg20
 z20:=Tryz.sizeOf20
 v20:=Tryz.zeroValue20
 t28:=Tryz.underlying22
 a28:=Tryz.isAgg22
 z28:=Tryz.sizeOf22
 v28:=Tryz.zeroValue22 }
open Go.Lib in
theorem Tryz.slices_Max_int (b off n c:Nat) (zs:List Int) (w:World) (hn:0<n) (hz:n≤zs.length) (hbig:n≤9223372036854775807) (hc:∀ j,j<zs.length→w.cell? ⟨b,off+j,none⟩=some (.int .i64 (zs.getD j 0))) :
  Calls Tryz.prog 161 #[.slice (some ⟨b,off,none⟩) n c] w fun e w'=>e=.returned (.int .i64 (Lib.maxOf (zs.take n)))∧w'=w:=Any.slices_Max_int Tryz.lays113 b off n c zs w hn hz hbig hc
end Go.Proofs
namespace Go.Proofs.YtnpboeodhpenmaaGreatDoor
variable {h:Nat→Int} {i n:Nat}
theorem Ur {α:Type} {lt : α → α→Prop} (hi:∀ x,¬ lt x x) (d:∀ x y z,lt x y→lt y z→lt x z):∀ {l m:List α},l.Pairwise lt→m.Pairwise lt→(∀ x,x∈l↔x∈m)→l=m
 | [],[],_,_,_=>rfl
 | [],b :: m,_,_,h=>by
  have:=(h b).2 ξ;simp at this
 | a :: l,[],_,_,h=>by
  have:=(h a).1 ξ;simp at this
 | a :: l,b :: m,h1,h2,h=>by
  rw [List.pairwise_cons] at h1 h2
  have e:a=b:=by
   have h3:=(h a).1 ξ;have h4:=(h b).2 ξ;rcases List.mem_cons.1 h3 with e | h3
   ·exact e
   ·rcases List.mem_cons.1 h4 with e | h4
    ·exact e.symm
    ·exact absurd (d _ _ _ (h2.1 a h3) (h1.1 b h4)) (hi b)
  subst e;rw [Ur hi d h1.2 h2.2 fun x=>?_];constructor
  ·intro c;rcases List.mem_cons.1 ((h x).1 (List.mem_cons_of_mem _ c)) with e | h3
   ·subst e;exact absurd (h1.1 x c) (hi x)
   ·exact h3
  ·intro c;rcases List.mem_cons.1 ((h x).2 (List.mem_cons_of_mem _ c)) with e | h3
   ·subst e;exact absurd (h2.1 x c) (hi x)
   ·exact h3
def ltT (a b:T3):Prop:=a.2.1<b.2.1∨(a.2.1=b.2.1∧(a.1<b.1∨(a.1=b.1∧a.2.2<b.2.2)))
theorem Jr (a:T3):¬ ltT a a:=by unfold ltT;omega
theorem Xq (a b c:T3) (h1:ltT a b) (h2:ltT b c):ltT a c:=by unfold ltT at *;omega
def Heap (n:Nat) (pl:Nat→Int×Int×Int) (h:Nat→Int) (S:List (T3×List Nat)):Prop :=
 S.Pairwise (fun a b=>ltT a.1 b.1)∧(∀ s∈S,s.2≠[]∧s.2.Pairwise (fun i j=>h i<h j)∧∀ j∈s.2,j<n∧pl j=s.1)∧∀ j,j<n→∃ s∈S,j∈s.2
theorem pair_same {S:List (T3×List Nat)} (h:S.Pairwise (fun a b=>ltT a.1 b.1)):∀ {s t},s∈S→t∈S→s.1=t.1→s=t:=by
 induction h with
 | nil=>intro s t hs;simp at hs
 | cons h1 _ ih =>
  intro s t hs f e;rcases List.mem_cons.1 hs with e1 | d
  ·rcases List.mem_cons.1 f with e2 | c
   ·rw [e1,e2]
   ·have:=h1 t c;rw [← e1,e] at this;exact absurd this (Jr _)
  ·rcases List.mem_cons.1 f with e2 | c
   ·have:=h1 s d;rw [← e2,e] at this;exact absurd this (Jr _)
   ·exact ih d c e
theorem Heap.mem {pl:Nat→Int×Int×Int} {S:List (T3×List Nat)} (H:Heap n pl h S) {s} (hs:s∈S) (k:Nat):k∈s.2↔k<n∧pl k=s.1:=by
 constructor
 ·exact (H.2.1 s hs).2.2 k
 ·rintro ⟨h1,h2⟩;obtain ⟨t,b,a⟩:=H.2.2 k h1;have:=((H.2.1 t b).2.2 k a).2;rw [← pair_same H.1 b hs (this.symm.trans h2)];exact a
theorem Heap.sub {pl:Nat→Int×Int×Int} {S T:List (T3×List Nat)} (H:Heap n pl h S) (K:Heap n pl h T) {s} (hs:s∈S):s∈T:=by
 obtain ⟨h1,h2,h3⟩:=H.2.1 s hs;obtain ⟨j,b⟩:=List.exists_mem_of_ne_nil _ h1;obtain ⟨t,a,c⟩:=K.2.2 j (h3 j b).1;have e1:t.1=s.1:=((K.2.1 t a).2.2 j c).2.symm.trans (h3 j b).2
 have e2:t.2=s.2:=Ur (lt:=fun i j=>h i<h j) (fun x=>by omega) (fun x y z=>by omega) (K.2.1 t a).2.1 h2 fun k=>by
  rw [K.mem a,H.mem hs,e1]
 rw [← show t=s from Prod.ext e1 e2];exact a
theorem Heap.one {pl:Nat→Int×Int×Int} {S T:List (T3×List Nat)} (H:Heap n pl h S) (K:Heap n pl h T):S=T :=
 Ur (lt:=fun a b=>ltT a.1 b.1) (fun _=>Jr _) (fun _ _ _=>Xq _ _ _) H.1 K.1 fun _=>⟨H.sub K,K.sub H⟩
def ltB (a b:T3):Bool:=decide (a.2.1<b.2.1∨(a.2.1=b.2.1∧(a.1<b.1∨(a.1=b.1∧a.2.2<b.2.2))))
theorem Ud {a b:T3}:ltB a b=true↔ltT a b:=by simp [ltB,ltT]
theorem Qaa {a b:T3} (h1:¬ ltT a b) (h2:a≠b):ltT b a:=by
 unfold ltT at *;have c:¬ (a.1=b.1∧a.2.1=b.2.1∧a.2.2=b.2.2):=fun e=>h2 (Prod.ext e.1 (Prod.ext e.2.1 e.2.2));omega
def insN (h:Nat→Int) (i:Nat):List Nat→List Nat
 | []=>[i]
 | j :: r=>if h j<h i then j :: insN h i r else i :: j :: r
theorem Vd {k:Nat}:∀ {l:List Nat},k∈insN h i l↔k=i∨k∈l
 | []=>by simp [insN]
 | j :: r=>by
  unfold insN;split
  ·rw [List.mem_cons,Vd,List.mem_cons];constructor
   ·rintro (h | h | h) <;> simp [h]
   ·rintro (h | h | h) <;> simp [h]
  ·simp
theorem Qaq:∀ {l:List Nat},l.Pairwise (fun a b=>h a<h b)→(∀ j∈l,h j≠h i)→(insN h i l).Pairwise (fun a b=>h a<h b)
 | [],_,_=>by simp [insN]
 | j :: r,hp,hn=>by
  rw [List.pairwise_cons] at hp;unfold insN;split
  ·rename_i c
   rw [List.pairwise_cons];refine ⟨fun k d=>?_,Qaq hp.2 fun k d=>hn k (List.mem_cons_of_mem _ d)⟩;rcases Vd.1 d with e | d
   ·rw [e];exact c
   ·exact hp.1 k d
  ·rename_i c
   rw [List.pairwise_cons,List.pairwise_cons];have f:=hn j ξ;refine ⟨fun k d=>?_,hp.1,hp.2⟩;rcases List.mem_cons.1 d with e | d
   ·rw [e];omega
   ·have:=hp.1 k d;omega
def insS (h:Nat→Int) (i:Nat) (at_:T3):List (T3×List Nat)→List (T3×List Nat)
 | []=>[(at_,[i])]
 | s :: r=>if ltB s.1 at_=true then s :: insS h i at_ r else if s.1=at_ then (s.1,insN h i s.2) :: r else (at_,[i]) :: s :: r
theorem Vc {d:T3}:∀ {S:List (T3×List Nat)},S.Pairwise (fun a b=>ltT a.1 b.1)→∀ t,t∈insS h i d S↔(t∈S∧t.1≠d)∨(t.1=d∧((∃ s∈S,s.1=d∧t.2=insN h i s.2)∨(t.2=[i]∧∀ s∈S,s.1≠d)))
 | [],_,t=>by
  simp only [insS,List.mem_singleton,List.not_mem_nil,false_and,false_or,exists_false,false_implies,implies_true,and_true];constructor
  ·rintro rfl;exact ⟨rfl,rfl⟩
  ·rintro ⟨h1,h2⟩;exact Prod.ext h1 h2
 | s :: r,hp,t=>by
  rw [List.pairwise_cons] at hp;unfold insS;split
  ·rename_i c
   rw [Ud] at c;have hs:s.1≠d:=fun e=>Jr _ (e ▸ c);rw [List.mem_cons,Vc hp.2];constructor
   ·rintro (rfl | ⟨h1,h2⟩ | ⟨h1,(⟨u,h2,h3⟩ | ⟨h2,h3⟩)⟩)
    ·exact Or.inl ⟨ξ,hs⟩
    ·exact Or.inl ⟨List.mem_cons_of_mem _ h1,h2⟩
    ·exact Or.inr ⟨h1,Or.inl ⟨u,List.mem_cons_of_mem _ h2,h3⟩⟩
    ·refine Or.inr ⟨h1,Or.inr ⟨h2,fun u g=>?_⟩⟩;rcases List.mem_cons.1 g with e | g
     ·rw [e];exact hs
     ·exact h3 u g
   ·rintro (⟨h1,h2⟩ | ⟨h1,(⟨u,h2,h3,h4⟩ | ⟨h2,h3⟩)⟩)
    ·rcases List.mem_cons.1 h1 with e | h1
     ·exact Or.inl e
     ·exact Or.inr (Or.inl ⟨h1,h2⟩)
    ·rcases List.mem_cons.1 h2 with e | h2
     ·exact absurd (e ▸ h3) hs
     ·exact Or.inr (Or.inr ⟨h1,Or.inl ⟨u,h2,h3,h4⟩⟩)
    ·exact Or.inr (Or.inr ⟨h1,Or.inr ⟨h2,fun u g=>h3 u (List.mem_cons_of_mem _ g)⟩⟩)
  ·rename_i c
   rw [Ud] at c;split
   ·rename_i c2
    have hr:∀ u∈r,u.1≠d:=fun u g e=>Jr d (by have:=hp.1 u g;rw [e,c2] at this;exact this);rw [List.mem_cons];constructor
    ·rintro (rfl | h1)
     ·exact Or.inr ⟨c2,Or.inl ⟨s,ξ,c2,rfl⟩⟩
     ·exact Or.inl ⟨List.mem_cons_of_mem _ h1,hr t h1⟩
    ·rintro (⟨h1,h2⟩ | ⟨h1,(⟨u,h2,h3,h4⟩ | ⟨h2,h3⟩)⟩)
     ·rcases List.mem_cons.1 h1 with e | h1
      ·exact absurd (e ▸ c2) h2
      ·exact Or.inr h1
     ·rcases List.mem_cons.1 h2 with e | h2
      ·rw [e] at h4;exact Or.inl (Prod.ext (h1.trans c2.symm) h4)
      ·exact absurd h3 (hr u h2)
     ·exact absurd c2 (h3 s ξ)
   ·rename_i c2
    have j:=Qaa c c2
    have f:∀ u∈s :: r,u.1≠d:=fun u g e=>by
     rcases List.mem_cons.1 g with e2 | g
     ·exact c2 (e2 ▸ e)
     ·have:=Xq _ _ _ j (hp.1 u g);rw [e] at this;exact Jr _ this
    rw [List.mem_cons];constructor
    ·rintro (rfl | h1)
     ·exact Or.inr ⟨rfl,Or.inr ⟨rfl,f⟩⟩
     ·exact Or.inl ⟨h1,f t h1⟩
    ·rintro (⟨h1,h2⟩ | ⟨h1,(⟨u,h2,h3,h4⟩ | ⟨h2,h3⟩)⟩)
     ·exact Or.inr h1
     ·exact absurd h3 (f u h2)
     ·exact Or.inl (Prod.ext h1 h2)
theorem Qap {g:T3}:∀ {S:List (T3×List Nat)},S.Pairwise (fun a b=>ltT a.1 b.1)→(insS h i g S).Pairwise (fun a b=>ltT a.1 b.1)
 | [],_=>by simp [insS]
 | s :: r,hp=>by
  have j:=hp;rw [List.pairwise_cons] at hp;unfold insS;split
  ·rename_i c
   rw [Ud] at c;rw [List.pairwise_cons];refine ⟨fun t f=>?_,Qap hp.2⟩;rcases (Vc hp.2 t).1 f with ⟨h1,_⟩ | ⟨h1,_⟩
   ·exact hp.1 t h1
   ·rw [h1];exact c
  ·rename_i c
   rw [Ud] at c;split
   ·rw [List.pairwise_cons];exact hp
   ·rename_i c2
    have d:=Qaa c c2;rw [List.pairwise_cons];refine ⟨fun t f=>?_,j⟩;rcases List.mem_cons.1 f with e | f
    ·rw [e];exact d
    ·exact Xq _ _ _ d (hp.1 t f)
theorem Heap.ins {pl:Nat→Int×Int×Int} {S:List (T3×List Nat)} (H:Heap n pl h S) (k:∀ j,j<n→pl j=pl n→h j≠h n):Heap (n+1) pl h (insS h n (pl n) S):=by
 refine ⟨Qap H.1,fun t l=>?_,fun j d=>?_⟩
 ·rcases (Vc H.1 t).1 l with ⟨h1,_⟩ | ⟨h1,(⟨s,h2,h3,h4⟩ | ⟨h2,_⟩)⟩
  ·obtain ⟨a,b,c⟩:=H.2.1 t h1;exact ⟨a,b,fun j d=>⟨by have:=(c j d).1;omega,(c j d).2⟩⟩
  ·obtain ⟨_,b,c⟩:=H.2.1 s h2;rw [h4,h1];refine ⟨fun e=>?_,Qaq b fun j d=>k j (c j d).1 ((c j d).2.trans h3),fun j d=>?_⟩
   ·have:n∈insN h n s.2:=Vd.2 (Or.inl rfl);rw [e] at this;simp at this
   ·rcases Vd.1 d with e | d
    ·rw [e];exact ⟨γ,rfl⟩
    ·exact ⟨by have:=(c j d).1;omega,(c j d).2.trans h3⟩
  ·rw [h2,h1];refine ⟨ξ,ξ,fun j d=>?_⟩;simp at d;rw [d];exact ⟨γ,rfl⟩
 ·by_cases e:pl j=pl n
  ·by_cases hs:∃ s∈S,s.1=pl n
   ·obtain ⟨s,h1,h2⟩:=hs;refine ⟨(pl n,insN h n s.2),(Vc H.1 _).2 (Or.inr ⟨rfl,Or.inl ⟨s,h1,h2,rfl⟩⟩),Vd.2 ?_⟩;by_cases ej:j=n
    ·exact Or.inl ej
    ·exact Or.inr ((H.mem h1 j).2 ⟨γ,e.trans h2.symm⟩)
   ·have f:∀ s∈S,s.1≠pl n:=fun s h1 h2=>hs ⟨s,h1,h2⟩;refine ⟨(pl n,[n]),(Vc H.1 _).2 (Or.inr ⟨rfl,Or.inr ⟨rfl,f⟩⟩), ?_⟩;by_cases ej:j=n
    ·simp [ej]
    ·obtain ⟨s,h1,h2⟩:=H.2.2 j γ;exact absurd (((H.2.1 s h1).2.2 j h2).2.symm.trans e) (f s h1)
  ·have g:j<n:=by
    rcases Nat.lt_or_ge j n with i | i
    ·exact i
    ·have:j=n:=γ;rw [this] at e;exact absurd rfl e
   obtain ⟨s,h1,h2⟩:=H.2.2 j g;exact ⟨s,(Vc H.1 s).2 (Or.inl ⟨h1,fun e2=>e (((H.2.1 s h1).2.2 j h2).2.trans e2)⟩),h2⟩
theorem heap_nil (pl:Nat→Int×Int×Int) (h:Nat→Int):Heap 0 pl h []:=⟨ξ,ξ,fun j a=>by omega⟩
open Go.RowKit
theorem mapMay_any (a b c d e f:Int) (w:World) :
  Cl 61 #[.agg #[I a,I b,I c,I d,I e,I f]] w fun r w'=>r=.returned (.bool (mapB a b c d e f))∧∃ o,w'=w.alloc o:=by
 go_enter Tryz.func61,Tryz.ntmps61;go_wp2_with (go_at_call 136;refine (Jk _ _ _ _).mono ?_;rintro e w' ⟨rfl,rfl⟩)
 all_goals
  go_ret;exact ⟨Qv (by simp_all [mapB,unitB,evenB,inB,tmod2];try (first | (rw [Bool.eq_iff_iff];simp [tmod2];done) | (intros;omega))),_,rfl⟩
theorem Up (x y k:Int) (w:World) :
  Cl 62 #[.agg #[I x,I y,I k]] w fun e w'=>e=.returned (.bool (triB x y k))∧∃ o,w'=w.alloc o:=by
 go_enter Tryz.func62,Tryz.ntmps62;go_wp2_with (go_at_call 136;refine (Jk _ _ _ _).mono ?_;rintro e w' ⟨rfl,rfl⟩)
 all_goals
  go_ret;exact ⟨Qv (by rw [Bool.eq_iff_iff];simp_all [inB,triB];try omega),_,rfl⟩
end Go.Proofs.YtnpboeodhpenmaaGreatDoor
