/- A part of the proof of foldFlat_holds. -/
import Derived.Test.YtgpjaecgkkgehaaGreatDoorQfah
import Derived.Test.YtgpjaecgkkgehaaGreatDoorQfaf
import Derived.Deep.LoopGhost
namespace Go.Proofs.YtgpjaecgkkgehaaGreatDoor
open Go.RowKit
attribute [local go_sem ↓] Go.wp_at_zero Go.wp_at_succ
def cmp3 (a b:Int):Int:=if a<b then -1 else if b<a then 1 else 0
def or2 (m n:Int):Int:=if m=0 then n else m
def cmpP (a b c d:Int):Int:=or2 (cmp3 a c) (cmp3 b d)
def cmpE (a b c d p q r s:Int):Int:=or2 (cmpP a b p q) (cmpP c d r s)
theorem isNaN_any (n:Int) (w:World):Calls Tryz.prog 184 #[.int .i64 n] w fun e w'=>e=.returned (.bool false)∧w'=w:=by
 go_enter Tryz.func184,Tryz.ntmps184
 go_wp2
 go_ret
 exact ⟨rfl,rfl⟩
theorem compare_any (a b:Int) (w:World):Calls Tryz.prog 146 #[.int .i64 a,.int .i64 b] w fun e w'=>e=.returned (.int .i64 (cmp3 a b))∧w'=w:=by
 go_enter Tryz.func146,Tryz.ntmps146
 go_wp2_with (go_at_call 184;refine (isNaN_any _ _).mono ?_;rintro e w' ⟨rfl,rfl⟩)
 all_goals
  go_ret
  exact ⟨ret_int (by unfold cmp3;split <;> (try split) <;> omega),rfl⟩
set_option maxHeartbeats 800000 in
theorem or2_any (m n:Int) (g cap:Nat) (w:World) (h0:w.cell? ⟨g,0,none⟩=some (.int .i64 m)) (h1:w.cell? ⟨g,1,none⟩=some (.int .i64 n)) :
  Calls Tryz.prog 145 #[.slice (some ⟨g,0,none⟩) 2 cap] w fun e w'=>e=.returned (.int .i64 (or2 m n))∧w'=w:=by
 go_enter Tryz.func145,Tryz.ntmps145
 go_wp2
 go_loopg [8] 2 (fun k s8 wx=>∃ i:Int,0≤i∧i≤2∧(k:Int)=2 - i∧s8=.int .i64 i∧(1≤i→m=0)∧(2≤i→n=0)∧wx=w)
 case atStart=>exact ⟨0,by omega,by omega,by omega,rfl,by omega,by omega,rfl⟩
 case round =>
  obtain ⟨i,i0,i2,hg,rfl,hm,hn,rfl⟩:=hrel
  have hi:i=0∨i=1∨i=2:=by omega
  rcases hi with rfl | rfl | rfl
  ·by_cases e:m=0
   ·have HE:Hid (m=0):=e
    go_wp2
    go_roundg 1
    case measure=>omega
    case rel=>exact ⟨1,by omega,by omega,by omega,by go_num,fun _=>HE.out,by omega,rfl⟩
   ·have HE:Hid (or2 m n=m):=by show or2 m n=m;simp [or2,e]
    have e':(m == 0)=false:=by simpa using e
    go_wp2
    go_ret
    exact ⟨ret_int HE.out.symm,rfl⟩
  ·have hm0:=hm (by omega)
   have HM:Hid (m=0):=hm0
   clear hm0
   by_cases e:n=0
   ·have HE:Hid (n=0):=e
    go_wp2
    go_roundg 0
    case measure=>omega
    case rel=>exact ⟨2,by omega,by omega,by omega,by go_num,fun _=>HM.out,fun _=>HE.out,rfl⟩
   ·have HE:Hid (or2 m n=n):=by show or2 m n=n;simp [or2,HM.out]
    have e':(n == 0)=false:=by simpa using e
    go_wp2
    go_ret
    exact ⟨ret_int HE.out.symm,rfl⟩
  ·have HE:Hid (or2 m n=0):=by show or2 m n=0;simp [or2,hm (by omega),hn (by omega)]
   go_wp2
   go_ret
   exact ⟨ret_int HE.out.symm,rfl⟩
set_option maxRecDepth 100000 in
set_option maxHeartbeats 1600000 in
theorem comparePoints_any (a b p q:Int) (w:World) :
  Calls Tryz.prog 156 #[.agg #[.int .i64 a,.int .i64 b],.agg #[.int .i64 p,.int .i64 q]] w fun e w'=>e=.returned (.int .i64 (cmpP a b p q))∧Below w.heap.size w w':=by
 go_enter Tryz.func156,Tryz.ntmps156
 go_wp2
 go_region_held3 (fun w'=>w'.cell? ⟨w.heap.size,0,none⟩=some (.int .i64 a)∧w'.cell? ⟨w.heap.size,1,none⟩=some (.int .i64 b)∧w'.cell? ⟨w.heap.size+1,0,none⟩=some (.int .i64 p)∧w'.cell? ⟨w.heap.size+1,1,none⟩=some (.int .i64 q))
  ((refine ⟨?_, ?_, ?_, ?_⟩ <;> (repeat' (first | (with_reducible assumption) | (dsimp only;omega) | (simp [go_sem];done) | (with_reducible refine al_old ?_) | (with_reducible refine dr_old ?_)))))
  (first | (go_at_call 146;refine (compare_any _ _ _).mono ?_;rintro e w2 ⟨rfl,rfl⟩) | (go_at_call 145;refine (or2_any (cmp3 a p) (cmp3 b q) _ _ _ (by first | (simp [go_sem];done) | (simp [go_sem,World.cell?_alloc_past];done)) (by first | (simp [go_sem];done) | (simp [go_sem,World.cell?_alloc_past];done))).mono ?_;rintro e w3 ⟨rfl,rfl⟩))
 all_goals
  go_wp2
  go_ret
  refine ⟨rfl, ?_⟩
  with_reducible repeat' (first | exact bl_refl _ | refine bl_alloc ?_ | refine bl_drew ?_)
set_option maxRecDepth 100000 in
set_option maxHeartbeats 1600000 in
theorem compareEdges_any (a b c d p q r s:Int) (w:World) :
  Calls Tryz.prog 133 #[.agg #[.int .i64 a,.int .i64 b,.int .i64 c,.int .i64 d],.agg #[.int .i64 p,.int .i64 q,.int .i64 r,.int .i64 s]] w fun e w'=>e=.returned (.int .i64 (cmpE a b c d p q r s))∧Below w.heap.size w w':=by
 go_enter Tryz.func133,Tryz.ntmps133
 go_wp2
 go_region_held3 (fun w'=>w'.cell? ⟨w.heap.size,0,none⟩=some (.int .i64 a)∧w'.cell? ⟨w.heap.size,1,none⟩=some (.int .i64 b)∧w'.cell? ⟨w.heap.size,2,none⟩=some (.int .i64 c)∧w'.cell? ⟨w.heap.size,3,none⟩=some (.int .i64 d)∧w'.cell? ⟨w.heap.size+1,0,none⟩=some (.int .i64 p)∧w'.cell? ⟨w.heap.size+1,1,none⟩=some (.int .i64 q)∧w'.cell? ⟨w.heap.size+1,2,none⟩=some (.int .i64 r)∧w'.cell? ⟨w.heap.size+1,3,none⟩=some (.int .i64 s))
  ((refine ⟨?_, ?_, ?_, ?_, ?_, ?_, ?_, ?_⟩ <;> (repeat' (first | (with_reducible assumption) | (dsimp only;omega) | (simp [go_sem];done) | (with_reducible refine al_old ?_) | (with_reducible refine dr_old ?_)))))
  (first
   | (go_at_call 156;refine (comparePoints_any _ _ _ _ _).mono ?_;rintro e w8 ⟨rfl,hb⟩;have a0_w8:w8.cell? ⟨w.heap.size,0,none⟩=some (.int .i64 a):=cl_kept hb (by first | (with_reducible (repeat (first | assumption | refine dr_old ?_ | refine al_old ?_));done) | (simp [go_sem];done));have a1_w8:w8.cell? ⟨w.heap.size,1,none⟩=some (.int .i64 b):=cl_kept hb (by first | (with_reducible (repeat (first | assumption | refine dr_old ?_ | refine al_old ?_));done) | (simp [go_sem];done));have a2_w8:w8.cell? ⟨w.heap.size,2,none⟩=some (.int .i64 c):=cl_kept hb (by first | (with_reducible (repeat (first | assumption | refine dr_old ?_ | refine al_old ?_));done) | (simp [go_sem];done));have a3_w8:w8.cell? ⟨w.heap.size,3,none⟩=some (.int .i64 d):=cl_kept hb (by first | (with_reducible (repeat (first | assumption | refine dr_old ?_ | refine al_old ?_));done) | (simp [go_sem];done));have e0_w8:w8.cell? ⟨w.heap.size+1,0,none⟩=some (.int .i64 p):=cl_kept hb (by first | (with_reducible (repeat (first | assumption | refine dr_old ?_ | refine al_old ?_));done) | (simp [go_sem];done));have e1_w8:w8.cell? ⟨w.heap.size+1,1,none⟩=some (.int .i64 q):=cl_kept hb (by first | (with_reducible (repeat (first | assumption | refine dr_old ?_ | refine al_old ?_));done) | (simp [go_sem];done));have e2_w8:w8.cell? ⟨w.heap.size+1,2,none⟩=some (.int .i64 r):=cl_kept hb (by first | (with_reducible (repeat (first | assumption | refine dr_old ?_ | refine al_old ?_));done) | (simp [go_sem];done));have e3_w8:w8.cell? ⟨w.heap.size+1,3,none⟩=some (.int .i64 s):=cl_kept hb (by first | (with_reducible (repeat (first | assumption | refine dr_old ?_ | refine al_old ?_));done) | (simp [go_sem];done));have hq:Below w.heap.size w w8:=(by with_reducible (first | exact bl_via HQ.out hb | exact bl_via (bl_drew HQ.out) hb | exact bl_via (bl_drew (bl_alloc (bl_alloc (bl_refl _)))) hb | exact bl_via (bl_alloc (bl_alloc (bl_refl _))) hb));have HQ:Hid (Below w.heap.size w w8):=hq;clear hq;clear hb)
   | (go_at_call 145;refine (or2_any (cmpP a b p q) (cmpP c d r s) _ _ _ (by first | (simp [go_sem];done) | (simp [go_sem,World.cell?_alloc_past];done)) (by first | (simp [go_sem];done) | (simp [go_sem,World.cell?_alloc_past];done))).mono ?_;rintro e w3 ⟨rfl,rfl⟩))
 all_goals
  go_wp2
  go_ret
  refine ⟨rfl, ?_⟩
  with_reducible repeat' (first | exact HQ.out | refine bl_alloc ?_ | refine bl_drew ?_)
open Go.RowKit
attribute [local go_sem ↓] Go.wp_at_zero Go.wp_at_succ
theorem eql25 (a b p q:Int) (w:World) :
  (binOp .eql 79 (.agg #[.int .i64 a,.int .i64 b]) (.agg #[.int .i64 p,.int .i64 q])).run Tryz.prog w=.ok (.bool (decide (a=p∧b=q))) w:=by
 by_cases h1:a=p
 ·subst h1
  by_cases h2:b=q
  ·subst h2
   simp [go_sem]
  ·have e:(b == q)=false:=by simpa using h2
   simp [go_sem,e,h2]
 ·have e:(a == p)=false:=by simpa using h1
  simp [go_sem,e,h1]
def lessE (a b c d p q r s:Int):Bool:=lessB a b p q || (decide (a=p∧b=q) && lessB c d r s)
set_option maxHeartbeats 1600000 in
theorem lessEdge_any (a b c d p q r s:Int) (w:World) :
  Calls Tryz.prog 35 #[.agg #[.int .i64 a,.int .i64 b,.int .i64 c,.int .i64 d],.agg #[.int .i64 p,.int .i64 q,.int .i64 r,.int .i64 s]] w fun e w'=>e=.returned (.bool (lessE a b c d p q r s))∧Below w.heap.size w w':=by
 have he:=eql25
 cases h1:lessB a b p q
 ·cases h2:decide (a=p∧b=q)
  ·have HE:Hid (lessE a b c d p q r s=false):=by show lessE a b c d p q r s=false;simp only [lessE,h1,h2];rfl
   go_enter Tryz.func35,Tryz.ntmps35
   go_wp2_with (go_at_call 75;refine (lessPoint_any _ _ _ _ _).mono ?_;rintro e w' ⟨rfl,o1,o2,rfl⟩)
   go_ret
   refine ⟨by rw [HE.out];rfl, ?_⟩
   with_reducible repeat' (first | exact bl_refl _ | refine bl_alloc ?_ | refine bl_drew ?_)
  ·have HE:Hid (lessE a b c d p q r s=lessB c d r s):=by show lessE a b c d p q r s=lessB c d r s;simp only [lessE,h1,h2];simp
   go_enter Tryz.func35,Tryz.ntmps35
   go_wp2_with (go_at_call 75;refine (lessPoint_any _ _ _ _ _).mono ?_;rintro e w' ⟨rfl,o1,o2,rfl⟩)
   go_ret
   refine ⟨by rw [HE.out];rfl, ?_⟩
   with_reducible repeat' (first | exact bl_refl _ | refine bl_alloc ?_ | refine bl_drew ?_)
 ·have HE:Hid (lessE a b c d p q r s=true):=by show lessE a b c d p q r s=true;simp only [lessE,h1];rfl
  go_enter Tryz.func35,Tryz.ntmps35
  go_wp2_with (go_at_call 75;refine (lessPoint_any _ _ _ _ _).mono ?_;rintro e w' ⟨rfl,o1,o2,rfl⟩)
  go_ret
  refine ⟨by rw [HE.out];rfl, ?_⟩
  with_reducible repeat' (first | exact bl_refl _ | refine bl_alloc ?_ | refine bl_drew ?_)
theorem cmpE_less (a b c d p q r s:Int):cmpE a b c d p q r s<0↔lessE a b c d p q r s=true:=by
 unfold cmpE cmpP or2 cmp3 lessE lessB
 simp only [Bool.or_eq_true,Bool.and_eq_true,decide_eq_true_eq]
 split <;> rename_i h1 <;> (repeat' split at h1) <;> (repeat' split) <;> omega
def plc (l:List (Int×Int×Int)) (t:Int×Int×Int):Int:=if t∈l then (l.idxOf t:Int) else -1
theorem plc_at {l:List (Int×Int×Int)} {t:Int×Int×Int} {i:Nat} (hi:i<l.length) (he:l[i]=t) (hn:∀ j (hj:j<l.length),j<i→l[j]≠t):plc l t=i:=by
 have hm:t∈l:=he ▸ List.getElem_mem hi
 have h1:=List.idxOf_lt_length_of_mem hm
 have h2:l[l.idxOf t]=t:=List.getElem_idxOf h1
 have h3:l.idxOf t=i:=by
  rcases Nat.lt_trichotomy (l.idxOf t) i with h | h | h
  ·exact absurd h2 (hn _ h1 h)
  ·exact h
  ·simp [List.idxOf] at h
   obtain ⟨_,hh⟩:=h
   exact absurd he (hh i (Nat.le_refl _))
 simp [plc,hm,h3]
theorem plc_not {l:List (Int×Int×Int)} {t:Int×Int×Int} (hn:∀ j (hj:j<l.length),l[j]≠t):plc l t=-1:=by
 have hm:¬ t∈l:=fun h=>by
  obtain ⟨j,hj,e⟩:=List.getElem_of_mem h
  exact hn j hj e
 simp [plc,hm]
set_option maxHeartbeats 1600000 in
theorem placeOf_any (a:Option Addr) (cap:Nat) (l:List (Int×Int×Int)) (x y k:Int) (w:World) (hT:TRow w a l) (hlen:l.length≤256) :
  Calls Tryz.prog 41 #[.slice a l.length cap,.agg #[.int .i64 x,.int .i64 y,.int .i64 k]] w fun e w'=>e=.returned (.int .i64 (plc l (x,y,k)))∧Below w.heap.size w w':=by
 have he:=eql23
 have HT:Hid (TRow w a l):=hT
 clear hT
 go_enter Tryz.func41,Tryz.ntmps41
 go_wp2
 go_loopg [5] l.length (fun g s5 wx=>∃ i:Nat,i≤l.length∧g=l.length - i∧s5=.int .i64 (i:Int)∧(∀ j (hj:j<l.length),j<i→l[j]≠(x,y,k))∧(Tr wx w.heap.size x y k∧Below w.heap.size w wx))
 case atStart=>exact ⟨0,by omega,rfl,rfl,fun j _ h=>by omega,by simp [Tr,go_sem],bl_alloc (bl_refl _)⟩
 case round =>
  obtain ⟨i,hi,rfl,rfl,hp,⟨t0,t1,t2⟩,hB⟩:=hrel
  have HP:Hid (∀ j (hj:j<l.length),j<i→l[j]≠(x,y,k)):=hp
  have HB:Hid (Below w.heap.size w wr):=hB
  have HTr:Hid (Tr wr w.heap.size x y k):=⟨t0,t1,t2⟩
  clear hp hB
  by_cases h1:i<l.length
  ·have i1:(i:Int)<(l.length:Int):=by omega
   have i0:(0:Int)≤(i:Int):=by omega
   obtain ⟨g,rfl,c0,c1,c2⟩:=(HT.out.kept HB.out) i h1
   obtain ⟨t,ht⟩:∃ t,t=l[i]:=⟨_,rfl⟩
   obtain ⟨X,Y,K⟩:=t
   rw [← ht] at c0 c1 c2
   dsimp only at c0 c1 c2
   have HE:Hid ((X,Y,K)=l[i]):=ht
   clear ht
   have zg:g<wr.heap.size:=World.block_lt_of_cell? _ _ c0
   have zt:w.heap.size<wr.heap.size:=World.block_lt_of_cell? _ _ t0
   cases hq:sameT X Y K x y k
   ·go_wp2
    go_quiet (fail)
    go_wp2
    go_roundg (l.length - (i+1))
    case measure=>omega
    case rel =>
     refine ⟨i+1,by omega,rfl,by go_num,fun j hj h=>?_,HTr.out, ?_⟩
     ·by_cases e:j=i
      ·subst e
       rw [← HE.out]
       intro hc
       simp at hc
       simp [sameT,hc] at hq
      ·exact HP.out j hj (by omega)
     ·with_reducible repeat' (first | exact HB.out | refine bl_drewN ?_ | refine bl_drew ?_)
   ·go_wp2
    go_quiet (fail)
    go_wp2
    go_ret
    refine ⟨ret_int ?_, ?_⟩
    ·refine (plc_at h1 ?_ HP.out).symm
     rw [← HE.out]
     simpa [sameT] using hq
    ·with_reducible repeat' (first | exact HB.out | refine bl_drewN ?_ | refine bl_drew ?_)
  ·have i1:¬ (i:Int)<(l.length:Int):=by omega
   go_wp2
   go_ret
   exact ⟨ret_int (plc_not (fun j hj=>HP.out j hj (by omega))).symm,HB.out⟩
open Go.RowKit
def AW (w wx:World) (x y k p q r s:Int):Prop:=Tr wx (w.heap.size) x y k∧Qd wx (w.heap.size+1) p q r s∧Tr wx (w.heap.size+1+1) 0 0 0∧Fr wx (w.heap.size+1+1)∧Below w.heap.size w wx
theorem AW.kept {w wr wx:World} {x y k p q r s:Int} (h:AW w wr x y k p q r s) (hb:Below wr.heap.size wr wx):AW w wx x y k p q r s :=
 ⟨h.1.kept hb,h.2.1.kept hb,h.2.2.1.kept hb,h.2.2.2.1.kept h.2.2.1.lt hb,bl_via h.2.2.2.2 hb⟩
def NX (x y k p q r s dx:Int):Prop := ∀ a b l:Int, -1≤a→a<dx→-1≤b→b≤1→0≤l→l≤3→¬ Oth x y k p q r s a b l
def NY (x y k p q r s dx dy:Int):Prop := ∀ b l:Int, -1≤b→b<dy→0≤l→l≤3→¬ Oth x y k p q r s dx b l
def NZ (x y k p q r s dx dy l:Int):Prop := ∀ m:Int,0≤m→m<l→¬ Oth x y k p q r s dx dy m
theorem NX.next {x y k p q r s dx:Int} (h:NX x y k p q r s dx) (hy:NY x y k p q r s dx 2):NX x y k p q r s (dx+1):=fun a b l a0 a1 b0 b1 l0 l1=>by
 by_cases e:a=dx
 ·subst e;exact hy b l b0 (by omega) l0 l1
 ·exact h a b l a0 (by omega) b0 b1 l0 l1
theorem NY.next {x y k p q r s dx dy:Int} (h:NY x y k p q r s dx dy) (hz:NZ x y k p q r s dx dy 4):NY x y k p q r s dx (dy+1):=fun b l b0 b1 l0 l1=>by
 by_cases e:b=dy
 ·subst e;exact hz l l0 (by omega)
 ·exact h b l b0 (by omega) l0 l1
theorem NZ.next {x y k p q r s dx dy l:Int} (h:NZ x y k p q r s dx dy l) (hn:¬ Oth x y k p q r s dx dy l):NZ x y k p q r s dx dy (l+1):=fun m m0 m1=>by
 by_cases e:m=l
 ·subst e;exact hn
 ·exact h m m0 (by omega)
set_option maxHeartbeats 1600000 in
theorem acrossOf_no (x y k p q r s:Int) (w:World) (h:triB x y k=true) (hh:hasB x y k p q r s=false) :
  Calls Tryz.prog 40 #[.agg #[.int .i64 x,.int .i64 y,.int .i64 k],.agg #[.int .i64 p,.int .i64 q,.int .i64 r,.int .i64 s]] w fun e w'=>e=.returned (.tuple #[.agg #[.int .i64 0,.int .i64 0,.int .i64 0],.bool false])∧Below w.heap.size w w':=by
 have hb:0≤k∧k≤3∧-1000000≤x∧x≤1000000∧-1000000≤y∧y≤1000000:=by simpa [triB] using h
 obtain ⟨k0,k3,b1,b2,b3,b4⟩:=hb
 have C44:Hid (∀ W:World,Calls Tryz.prog 76 #[.agg #[.int .i64 x,.int .i64 y,.int .i64 k],.agg #[.int .i64 p,.int .i64 q,.int .i64 r,.int .i64 s]] W fun e w'=>e=.returned (.bool false)∧Below W.heap.size W w'):=fun W=>hh ▸ hasEdge_any x y k p q r s W (by omega) (by omega) (by omega) (by omega) (by omega) (by omega)
 clear h hh k0 k3 b1 b2 b3 b4
 go_enter Tryz.func40,Tryz.ntmps40
 go_wp2_with (go_at_call 76;refine (C44.out _).mono ?_;rintro e w1 ⟨rfl,hb⟩;have r0:w1.cell? ⟨w.heap.size+1+1,0,none⟩=some (.int .i64 0):=cl_kept hb (by first | (simp [go_sem];done) | (simp [go_sem,World.cell?_alloc_past];done));have f0':w1.frozen? ⟨w.heap.size+1+1,0,none⟩=false:=(hb.frozen (p:=⟨w.heap.size+1+1,0,none⟩) (by simp <;> omega)).trans (by simp [go_sem]);have r1:w1.cell? ⟨w.heap.size+1+1,1,none⟩=some (.int .i64 0):=cl_kept hb (by first | (simp [go_sem];done) | (simp [go_sem,World.cell?_alloc_past];done));have f1':w1.frozen? ⟨w.heap.size+1+1,1,none⟩=false:=(hb.frozen (p:=⟨w.heap.size+1+1,1,none⟩) (by simp <;> omega)).trans (by simp [go_sem]);have r2:w1.cell? ⟨w.heap.size+1+1,2,none⟩=some (.int .i64 0):=cl_kept hb (by first | (simp [go_sem];done) | (simp [go_sem,World.cell?_alloc_past];done));have f2':w1.frozen? ⟨w.heap.size+1+1,2,none⟩=false:=(hb.frozen (p:=⟨w.heap.size+1+1,2,none⟩) (by simp <;> omega)).trans (by simp [go_sem]);have zz0:w.heap.size+1+1<w1.heap.size:=World.block_lt_of_cell? (w:=w1) (a:=⟨w.heap.size+1+1,0,none⟩) r0;have zz1:w.heap.size+1+1<w1.heap.size+1:=(by omega);have zz2:w.heap.size+1+1<w1.heap.size+1+1:=(by omega);have zz3:w.heap.size+1+1<w1.heap.size+1+1+1:=(by omega);have zz4:w.heap.size+1+1<w1.heap.size+1+1+1+1:=(by omega);have zz5:w.heap.size+1+1<w1.heap.size+1+1+1+1+1:=(by omega);have HB:Hid (Below w.heap.size w w1):=bl_via (bl_alloc (bl_alloc (bl_alloc (bl_refl _)))) hb;clear hb)
 refine bodyPost_ret (v:=.tuple #[.agg #[.int .i64 0,.int .i64 0,.int .i64 0],.bool false]) ?_ rfl ⟨rfl, ?_⟩
 ·first | (simp [results,Tryz.results40,go_sem, *];done) | (simp [results,Tryz.results40,go_sem,World.cell?_alloc_past, *];done)
 ·with_reducible repeat' (first | exact HB.out | refine bl_set ?_ ?_ | refine bl_alloc ?_ | refine bl_drew ?_)
  all_goals (first | (simp;done) | (simp;omega))
set_option maxRecDepth 100000 in
set_option maxHeartbeats 3200000 in
theorem acrossOf_yes (x y k p q r s:Int) (w:World) (h:triB x y k=true) (hh:hasB x y k p q r s=true) :
  Calls Tryz.prog 40 #[.agg #[.int .i64 x,.int .i64 y,.int .i64 k],.agg #[.int .i64 p,.int .i64 q,.int .i64 r,.int .i64 s]] w fun e w'=>e=.returned (.tuple #[.agg #[.int .i64 (acX x y k p q r s),.int .i64 (acY x y k p q r s),.int .i64 (acK x y k p q r s)],.bool true])∧Below w.heap.size w w':=by
 have hb:0≤k∧k≤3∧-1000000≤x∧x≤1000000∧-1000000≤y∧y≤1000000:=by simpa [triB] using h
 obtain ⟨k0,k3,b1,b2,b3,b4⟩:=hb
 have C44:Hid (∀ (X Y K:Int) (W:World), -4000000≤X→X≤4000000→-4000000≤Y→Y≤4000000→0≤K→K≤3→Calls Tryz.prog 76 #[.agg #[.int .i64 X,.int .i64 Y,.int .i64 K],.agg #[.int .i64 p,.int .i64 q,.int .i64 r,.int .i64 s]] W fun e w'=>e=.returned (.bool (hasB X Y K p q r s))∧Below W.heap.size W w'):=fun X Y K W c1 c2 c3 c4 c5 c6=>hasEdge_any X Y K p q r s W c1 c2 c3 c4 c5 c6
 have C0:Hid (∀ W:World,Calls Tryz.prog 76 #[.agg #[.int .i64 x,.int .i64 y,.int .i64 k],.agg #[.int .i64 p,.int .i64 q,.int .i64 r,.int .i64 s]] W fun e w'=>e=.returned (.bool true)∧Below W.heap.size W w'):=fun W=>hh ▸ hasEdge_any x y k p q r s W (by omega) (by omega) (by omega) (by omega) (by omega) (by omega)
 have HU:Hid (∀ dx dy l:Int,0≤l→l≤3→Oth x y k p q r s dx dy l→x+dx=acX x y k p q r s∧y+dy=acY x y k p q r s∧l=acK x y k p q r s):=fun dx dy l l0 l3 ho=>across_is x y k p q r s dx dy l k0 k3 l0 l3 hh ho
 have HX:Hid (∃ dx dy l:Int,(-1≤dx∧dx≤1)∧(-1≤dy∧dy≤1)∧(0≤l∧l≤3)∧Oth x y k p q r s dx dy l):=across_has x y k p q r s k0 k3 hh
 have hn:=neq23
 clear h hh
 go_enter Tryz.func40,Tryz.ntmps40
 go_wp2_with (go_at_call 76;refine (C0.out _).mono ?_;rintro e w1 ⟨rfl,hb⟩;have HA:Hid (AW w w1 x y k p q r s):=⟨Tr.kept (by simp [Tr,go_sem]) hb,Qd.kept (by simp [Qd,go_sem]) hb,Tr.kept (by simp [Tr,go_sem]) hb,Fr.kept (by simp [Fr,go_sem]) (by simp) hb,bl_via (bl_alloc (bl_alloc (bl_alloc (bl_refl _)))) hb⟩;clear hb)
 clear C0
 go_loopg [6] 3 (fun g s6 wx=>∃ dx:Int, -1≤dx∧dx≤2∧(g:Int)=2 - dx∧s6=.int .i64 dx∧NX x y k p q r s dx∧AW w wx x y k p q r s)
 case atStart=>exact ⟨-1,by omega,by omega,by omega,rfl,fun a b l a0 a1=>by omega,HA.out⟩
 case round =>
  obtain ⟨dx,d1,d2,hg1,rfl,hN,hA⟩:=hrel
  have HN1:Hid (NX x y k p q r s dx):=hN
  clear hN
  by_cases hx:dx≤1
  ·go_wp2
   go_loopg [7] 3 (fun g s7 wx=>∃ dy:Int, -1≤dy∧dy≤2∧(g:Int)=2 - dy∧s7=.int .i64 dy∧NY x y k p q r s dx dy∧AW w wx x y k p q r s)
   case atStart=>exact ⟨-1,by omega,by omega,by omega,rfl,fun b l b0 b1=>by omega,hA⟩
   case round =>
    clear hA
    obtain ⟨dy,d3,d4,hg2,rfl,hN,hA⟩:=hrel
    have HN2:Hid (NY x y k p q r s dx dy):=hN
    clear hN
    by_cases hy:dy≤1
    ·go_wp2
     go_loopg [8] 4 (fun g s8 wx=>∃ l:Int,0≤l∧l≤4∧(g:Int)=4 - l∧s8=.int .i64 l∧NZ x y k p q r s dx dy l∧AW w wx x y k p q r s)
     case atStart=>exact ⟨0,by omega,by omega,by omega,rfl,fun m m0 m1=>by omega,hA⟩
     case round =>
      clear hA
      obtain ⟨l,d5,d6,hg3,rfl,hN,hA⟩:=hrel
      have HN3:Hid (NZ x y k p q r s dx dy l):=hN
      have HA:Hid (AW w wr x y k p q r s):=hA
      clear hN hA
      by_cases hl:l<4
      ·have wX:IntKind.i64.wrap (x+dx)=x+dx:=wrap_of (by omega) (by omega)
       have wY:IntKind.i64.wrap (y+dy)=y+dy:=wrap_of (by omega) (by omega)
       obtain ⟨⟨t0,t1,t2⟩,⟨q0,q1,q2,q3⟩,⟨r0,r1,r2⟩,⟨f0,f1,f2,f3,f4,f5⟩,hB⟩:=HA.out
       have z0:w.heap.size+1+1<wr.heap.size:=World.block_lt_of_cell? _ _ r0
       have za0:w.heap.size<wr.heap.size:=by omega
       have za1:w.heap.size<wr.heap.size+1:=by omega
       have za2:w.heap.size<wr.heap.size+1+1:=by omega
       have zb0:w.heap.size+1<wr.heap.size:=by omega
       have zb1:w.heap.size+1<wr.heap.size+1:=by omega
       have zb2:w.heap.size+1<wr.heap.size+1+1:=by omega
       have zc0:w.heap.size+1+1<wr.heap.size:=by omega
       have zc1:w.heap.size+1+1<wr.heap.size+1:=by omega
       have zc2:w.heap.size+1+1<wr.heap.size+1+1:=by omega
       clear hB
       cases hs:sameT (x+dx) (y+dy) l x y k
       ·cases hh:hasB (x+dx) (y+dy) l p q r s
        ·go_wp2_with (go_at_call 76;refine (C44.out _ _ _ _ (by omega) (by omega) (by omega) (by omega) (by omega) (by omega)).mono ?_;rintro e w2 ⟨rfl,hb⟩;have HA2:Hid (AW w w2 x y k p q r s):=AW.kept HA.out (bl_via (bl_alloc (bl_refl _)) hb);clear hb)
         go_roundg (3 - l).toNat
         case measure=>omega
         case rel=>exact ⟨l+1,by omega,by omega,by omega,by go_num,HN3.out.next (fun ho=>by rw [ho.1] at hh;exact Bool.noConfusion hh),HA2.out⟩
        ·have HE:Hid (x+dx=acX x y k p q r s∧y+dy=acY x y k p q r s∧l=acK x y k p q r s):=HU.out dx dy l (by omega) (by omega) ⟨hh,by intro hc;simp [sameT,hc] at hs⟩
         go_wp2_with (go_at_call 76;refine (C44.out _ _ _ _ (by omega) (by omega) (by omega) (by omega) (by omega) (by omega)).mono ?_;rintro e w2 ⟨rfl,hb⟩;have HA2:Hid (AW w w2 x y k p q r s):=AW.kept HA.out (bl_via (bl_alloc (bl_refl _)) hb);have v0:w2.cell? ⟨wr.heap.size,0,none⟩=some (.int .i64 (x+dx)):=cl_kept hb (by simp [go_sem]);have v1:w2.cell? ⟨wr.heap.size,1,none⟩=some (.int .i64 (y+dy)):=cl_kept hb (by simp [go_sem]);have v2:w2.cell? ⟨wr.heap.size,2,none⟩=some (.int .i64 l):=cl_kept hb (by simp [go_sem]);obtain ⟨_,_,⟨r0',r1',r2'⟩,⟨g0,g1,g2,_,_,_⟩,_⟩:=HA2.out;have y0:w.heap.size+1+1<w2.heap.size:=World.block_lt_of_cell? _ _ r0';have y1:w.heap.size+1+1<w2.heap.size+1:=(by omega);have y2:wr.heap.size<w2.heap.size:=World.block_lt_of_cell? _ _ v0;have y3:wr.heap.size<w2.heap.size+1:=(by omega);clear hb)
         refine bodyPost_ret (v:=.tuple #[.agg #[.int .i64 (x+dx),.int .i64 (y+dy),.int .i64 l],.bool true]) ?_ rfl ⟨by rw [HE.out.1,HE.out.2.1,← HE.out.2.2], ?_⟩
         ·first | (simp [results,Tryz.results40,go_sem, *];done) | (simp [results,Tryz.results40,go_sem,World.cell?_alloc_past, *];done)
         ·with_reducible repeat' (first | exact HA2.out.2.2.2.2 | refine bl_set ?_ ?_ | refine bl_alloc ?_ | refine bl_drew ?_)
          all_goals (first | omega | (dsimp only;omega))
       ·go_wp2
        go_roundg (3 - l).toNat
        case measure=>omega
        case rel=>exact ⟨l+1,by omega,by omega,by omega,by go_num,HN3.out.next (fun ho=>by simp [sameT] at hs;exact ho.2 (by omega)),HA.out.kept (bl_alloc (bl_refl _))⟩
      ·go_wp2
       go_roundg (1 - dy).toNat
       case measure=>omega
       case rel =>
        obtain rfl:l=4:=by omega
        exact ⟨dy+1,by omega,by omega,by omega,by go_num,HN2.out.next HN3.out,HA.out⟩
    ·go_wp2
     go_roundg (1 - dx).toNat
     case measure=>omega
     case rel =>
      obtain rfl:dy=2:=by omega
      exact ⟨dx+1,by omega,by omega,by omega,by go_num,HN1.out.next HN2.out,hA⟩
  ·exfalso
   obtain rfl:dx=2:=by omega
   obtain ⟨a,b,l,⟨a0,a1⟩,⟨b0,b1⟩,⟨l0,l1⟩,ho⟩:=HX.out
   exact HN1.out a b l a0 (by omega) b0 b1 l0 l1 ho
end Go.Proofs.YtgpjaecgkkgehaaGreatDoor
