/- A part of it. -/
import Derived.Test.YtjkjpopghkeibaaGreatDoorQlaa
import Derived.Deep.DrawnRows
import Derived.Deep.DeepCutAuto
import Derived.Deep.CutBlock
import Derived.Laws.AppendOwnNone
set_option maxRecDepth 100000
set_option maxHeartbeats 40000000
namespace Go.Proofs.YtjkjpopghkeibaaGreatDoor
open Go.RowKit
variable {c w:World} {a p:Addr} {u v:Value} {base g n:Nat} {zs:List Int} {b:Int} {h:Nat→Int}
attribute [local go_sem ↓] Go.wp_at_zero Go.wp_at_succ
theorem Xb (k q:Int) (w:World) (h0:0≤k) (h1:k≤3) (h2:0≤q) (h3:q≤3) :
  Cl 166 #[I k,I q] w fun e w'=>e=.returned (I ((k+q) % 4))∧w'=w:=by
 go_enter Tryz.func166,Tryz.ntmps166;go_wp2;go_ret;exact ⟨rfl,rfl⟩
theorem Yx (x y k:Int) (w:World) (h:triB x y k=true) :
  Cl 164 #[.agg #[I x,I y,I k]] w fun e w'=>e=.returned (.agg #[I (2*x+1),I (2*y+1)])∧∃ o1 o2,w'=(w.alloc o1).alloc o2:=by
 have a:0≤k∧k≤3∧-1000000≤x∧x≤1000000∧-1000000≤y∧y≤1000000:=by simpa [triB] using h
 obtain ⟨_,_,b1,b2,b3,b4⟩:=a;clear h;go_enter Tryz.func164,Tryz.ntmps164;go_wp2;exact bodyPost_ret (v:=.agg #[I (2*x+1),I (2*y+1)]) (by simp [results,Tryz.results164,go_sem]) rfl ⟨rfl,_,_,rfl⟩
theorem Xw (a b c d:Int) (w:World) (h1 : -10000000≤a) (h2:a≤10000000) (h3 : -10000000≤b) (h4:b≤10000000) (h5 : -10000000≤c) (h6:c≤10000000) (f : -10000000≤d) (g:d≤10000000) :
  Cl 165 #[.agg #[I a,I b],.agg #[I c,I d]] w fun e w'=>e=.returned (.agg #[I (a+c),I (b+d)])∧∃ o1 o2 o3,w'=((w.alloc o1).alloc o2).alloc o3:=by
 go_enter Tryz.func165,Tryz.ntmps165;go_wp2;exact bodyPost_ret (v:=.agg #[I (a+c),I (b+d)]) (by simp [results,Tryz.results165,go_sem]) rfl ⟨rfl,_,_,_,rfl⟩
def alongOf (y a b:Int):Int:=if y=0 then a else if y=1 then b else if y=2 then a+b else a - b
def Steps (w:World):Prop :=
 At w 0 0 (I (-1))∧At w 0 1 (I (-1))∧At w 0 2 (I 1)∧At w 0 3 (I (-1)) ∧
 At w 0 4 (I 1)∧At w 0 5 (I 1)∧At w 0 6 (I (-1))∧At w 0 7 (I 1)
theorem Jw (h:w.cell? a=some v):a.block<w.heap.size:=bk h
theorem Jd {b:World} (c:Bl w b) (h:w.cell? a=some v):b.cell? a=some v:=(c.cell (Jw h)).trans h
theorem frozen_kept {b:Bool} (d:Bl w c) (e:w.cell? a=some v) (h:w.frozen? a=b):c.frozen? a=b:=(d.frozen (Jw e)).trans h
theorem Steps.kept {b:World} (hs:Steps w) (a:Bl w b):Steps b:=by
 obtain ⟨c,d,e,f,g,h,i,j⟩:=hs;exact ⟨Jd a c,Jd a d,Jd a e,Jd a f,Jd a g,Jd a h,Jd a i,Jd a j⟩
def stX (k:Int):Int:=if k=1∨k=2 then 1 else -1
def stY (k:Int):Int:=if k=2∨k=3 then 1 else -1
def c1x (x k:Int):Int:=2*x+1+stX k
def c1y (y k:Int):Int:=2*y+1+stY k
def c2x (x k:Int):Int:=2*x+1+stX ((k+1) % 4)
def c2y (y k:Int):Int:=2*y+1+stY ((k+1) % 4)
theorem stX_bd (k:Int) : -1≤stX k∧stX k≤1:=by unfold stX;split <;> omega
theorem stY_bd (k:Int) : -1≤stY k∧stY k≤1:=by unfold stY;split <;> omega
theorem corners_0 (x y:Int) (w:World) (h:triB x y 0=true) (hs:Steps w) :
  Rt 118 #[.agg #[I x,I y,I 0]] w (.agg #[I (2*x+1),I (2*y+1),I (2*x+1 + -1),I (2*y+1 + -1),I (2*x+1+1),I (2*y+1 + -1)]):=by
 have a : -1000000≤x∧x≤1000000∧-1000000≤y∧y≤1000000:=by simpa [triB] using h
 obtain ⟨b1,b2,b3,b4⟩:=a;obtain ⟨c,j,k,l,m,n,o,p⟩:=hs;have f:0<w.heap.size:=Jw c;have b:¬ w.heap.size=0:=γ;go_enter Tryz.func118,Tryz.ntmps118;go_wp2_with (go_at_call 164;refine (Yx _ _ _ _ h).mono ?_;rintro e w1 ⟨rfl,o1,o2,rfl⟩)
 go_region_held3 (fun w'=>At w' (w.heap.size+1+1+1+1) 0 (I (2*x+1))∧At w' (w.heap.size+1+1+1+1) 1 (I (2*y+1))∧At w' w.heap.size 2 (I 0)
   ∧ At w' 0 0 (I (-1))∧At w' 0 1 (I (-1))∧At w' 0 2 (I 1)∧At w' 0 3 (I (-1)))
  (simp [go_sem,Ca, *])
  (first | (go_at_call 165;refine (Xw _ _ _ _ _ γ γ γ γ γ γ γ γ).mono ?_;rintro e d ⟨rfl,o3,g,i,rfl⟩) | (go_at_call 166;refine (Xb _ _ _ γ γ γ γ).mono ?_;rintro e d ⟨rfl,rfl⟩))
 go_wp2;refine bodyPost_ret (v:=.agg #[I (2*x+1),I (2*y+1),I (2*x+1 + -1),I (2*y+1 + -1),I (2*x+1+1),I (2*y+1 + -1)]) ?_ rfl ⟨rfl, ?_⟩
 ·simp [results,Tryz.results118,go_sem,Ca]
 ·repeat (first | exact Below.refl _ _ | refine Below.alloc ?_ δ1 _ | refine Below.drew ?_)
theorem corners_1 (x y:Int) (w:World) (h:triB x y 1=true) (hs:Steps w) :
  Rt 118 #[.agg #[I x,I y,I 1]] w (.agg #[I (2*x+1),I (2*y+1),I (2*x+1+1),I (2*y+1 + -1),I (2*x+1+1),I (2*y+1+1)]):=by
 have a : -1000000≤x∧x≤1000000∧-1000000≤y∧y≤1000000:=by simpa [triB] using h
 obtain ⟨b1,b2,b3,b4⟩:=a;obtain ⟨c,j,k,l,m,n,o,p⟩:=hs;have f:0<w.heap.size:=Jw c;have b:¬ w.heap.size=0:=γ;go_enter Tryz.func118,Tryz.ntmps118;go_wp2_with (go_at_call 164;refine (Yx _ _ _ _ h).mono ?_;rintro e w1 ⟨rfl,o1,o2,rfl⟩)
 go_region_held3 (fun w'=>At w' (w.heap.size+1+1+1+1) 0 (I (2*x+1))∧At w' (w.heap.size+1+1+1+1) 1 (I (2*y+1))∧At w' w.heap.size 2 (I 1)
   ∧ At w' 0 2 (I 1)∧At w' 0 3 (I (-1))∧At w' 0 4 (I 1)∧At w' 0 5 (I 1))
  (simp [go_sem,Ca, *])
  (first | (go_at_call 165;refine (Xw _ _ _ _ _ γ γ γ γ γ γ γ γ).mono ?_;rintro e d ⟨rfl,o3,g,i,rfl⟩) | (go_at_call 166;refine (Xb _ _ _ γ γ γ γ).mono ?_;rintro e d ⟨rfl,rfl⟩))
 go_wp2;refine bodyPost_ret (v:=.agg #[I (2*x+1),I (2*y+1),I (2*x+1+1),I (2*y+1 + -1),I (2*x+1+1),I (2*y+1+1)]) ?_ rfl ⟨rfl, ?_⟩
 ·simp [results,Tryz.results118,go_sem,Ca]
 ·repeat (first | exact Below.refl _ _ | refine Below.alloc ?_ δ1 _ | refine Below.drew ?_)
theorem corners_2 (x y:Int) (w:World) (h:triB x y 2=true) (hs:Steps w) :
  Rt 118 #[.agg #[I x,I y,I 2]] w (.agg #[I (2*x+1),I (2*y+1),I (2*x+1+1),I (2*y+1+1),I (2*x+1 + -1),I (2*y+1+1)]):=by
 have a : -1000000≤x∧x≤1000000∧-1000000≤y∧y≤1000000:=by simpa [triB] using h
 obtain ⟨b1,b2,b3,b4⟩:=a;obtain ⟨c,j,k,l,m,n,o,p⟩:=hs;have f:0<w.heap.size:=Jw c;have b:¬ w.heap.size=0:=γ;go_enter Tryz.func118,Tryz.ntmps118;go_wp2_with (go_at_call 164;refine (Yx _ _ _ _ h).mono ?_;rintro e w1 ⟨rfl,o1,o2,rfl⟩)
 go_region_held3 (fun w'=>At w' (w.heap.size+1+1+1+1) 0 (I (2*x+1))∧At w' (w.heap.size+1+1+1+1) 1 (I (2*y+1))∧At w' w.heap.size 2 (I 2)
   ∧ At w' 0 4 (I 1)∧At w' 0 5 (I 1)∧At w' 0 6 (I (-1))∧At w' 0 7 (I 1))
  (simp [go_sem,Ca, *])
  (first | (go_at_call 165;refine (Xw _ _ _ _ _ γ γ γ γ γ γ γ γ).mono ?_;rintro e d ⟨rfl,o3,g,i,rfl⟩) | (go_at_call 166;refine (Xb _ _ _ γ γ γ γ).mono ?_;rintro e d ⟨rfl,rfl⟩))
 go_wp2;refine bodyPost_ret (v:=.agg #[I (2*x+1),I (2*y+1),I (2*x+1+1),I (2*y+1+1),I (2*x+1 + -1),I (2*y+1+1)]) ?_ rfl ⟨rfl, ?_⟩
 ·simp [results,Tryz.results118,go_sem,Ca]
 ·repeat (first | exact Below.refl _ _ | refine Below.alloc ?_ δ1 _ | refine Below.drew ?_)
theorem corners_3 (x y:Int) (w:World) (h:triB x y 3=true) (hs:Steps w) :
  Rt 118 #[.agg #[I x,I y,I 3]] w (.agg #[I (2*x+1),I (2*y+1),I (2*x+1 + -1),I (2*y+1+1),I (2*x+1 + -1),I (2*y+1 + -1)]):=by
 have a : -1000000≤x∧x≤1000000∧-1000000≤y∧y≤1000000:=by simpa [triB] using h
 obtain ⟨b1,b2,b3,b4⟩:=a;obtain ⟨c,j,k,l,m,n,o,p⟩:=hs;have f:0<w.heap.size:=Jw c;have b:¬ w.heap.size=0:=γ;go_enter Tryz.func118,Tryz.ntmps118;go_wp2_with (go_at_call 164;refine (Yx _ _ _ _ h).mono ?_;rintro e w1 ⟨rfl,o1,o2,rfl⟩)
 go_region_held3 (fun w'=>At w' (w.heap.size+1+1+1+1) 0 (I (2*x+1))∧At w' (w.heap.size+1+1+1+1) 1 (I (2*y+1))∧At w' w.heap.size 2 (I 3)
   ∧ At w' 0 6 (I (-1))∧At w' 0 7 (I 1)∧At w' 0 0 (I (-1))∧At w' 0 1 (I (-1)))
  (simp [go_sem,Ca, *])
  (first | (go_at_call 165;refine (Xw _ _ _ _ _ γ γ γ γ γ γ γ γ).mono ?_;rintro e d ⟨rfl,o3,g,i,rfl⟩) | (go_at_call 166;refine (Xb _ _ _ γ γ γ γ).mono ?_;rintro e d ⟨rfl,rfl⟩))
 go_wp2;refine bodyPost_ret (v:=.agg #[I (2*x+1),I (2*y+1),I (2*x+1 + -1),I (2*y+1+1),I (2*x+1 + -1),I (2*y+1 + -1)]) ?_ rfl ⟨rfl, ?_⟩
 ·simp [results,Tryz.results118,go_sem,Ca]
 ·repeat (first | exact Below.refl _ _ | refine Below.alloc ?_ δ1 _ | refine Below.drew ?_)
theorem Qar (x y k:Int) (w:World) (h:triB x y k=true) (hs:Steps w) :
  Rt 118 #[.agg #[I x,I y,I k]] w (.agg #[I (2*x+1),I (2*y+1),I (c1x x k),I (c1y y k),I (c2x x k),I (c2y y k)]):=by
 have a:k=0∨k=1∨k=2∨k=3:=by have:=h;simp [triB] at this;omega
 rcases a with rfl | rfl | rfl | rfl
 ·exact corners_0 x y w h hs
 ·exact corners_1 x y w h hs
 ·exact corners_2 x y w h hs
 ·exact corners_3 x y w h hs
theorem Qe (w:World):Bl w w:=Below.refl _ _
theorem Qb {v:World} {o:Obj} (h:Bl w v):Bl w (v.alloc o):=h.alloc h.size _
theorem Qg {v:World} (h:Bl w v):Bl w v.drew:=h.drew
theorem Qr {v:World} (h:Bl w v):Bl w (v.drewN n):=⟨h.os,h.tape,h.output,h.size,h.block⟩
theorem Qc {v u:World} (h:Bl w v) (k:Bl v u):Bl w u:=h.trans (k.mono h.size)
theorem Qh {v:World} (h:Bl w v) (hp:w.heap.size≤p.block):Bl w (v.setCell p u):=h.setCell hp _
def Mp (w:World) (g:Nat) (a b c d e f:Int):Prop :=
 At w g 0 (I a)∧At w g 1 (I b)∧At w g 2 (I c)∧At w g 3 (I d)∧At w g 4 (I e)∧At w g 5 (I f)
def Pt (w:World) (g:Nat) (x y:Int):Prop:=At w g 0 (I x)∧At w g 1 (I y)
def Tr (w:World) (g:Nat) (x y k:Int):Prop:=At w g 0 (I x)∧At w g 1 (I y)∧At w g 2 (I k)
def Fr (w:World) (g:Nat):Prop :=
 Fn w g 0∧Fn w g 1∧Fn w g 2∧Fn w g 3∧Fn w g 4∧Fn w g 5
theorem Qa {b:World} (c:Bl w b) (h:w.cell? a=some v):b.cell? a=some v:=(c.cell (bk h)).trans h
theorem Mp.kept {j:World} {a c d e f:Int} (h:Mp w g a b c d e f) (i:Bl w j):Mp j g a b c d e f:=by
 obtain ⟨h0,h1,h2,h3,h4,h5⟩:=h;exact ⟨Qa i h0,Qa i h1,Qa i h2,Qa i h3,Qa i h4,Qa i h5⟩
theorem Pt.kept {d:World} {a:Int} (h:Pt w g a b) (c:Bl w d):Pt d g a b:=⟨Qa c h.1,Qa c h.2⟩
theorem Tr.kept {e:World} {a c:Int} (h:Tr w g a b c) (d:Bl w e):Tr e g a b c:=⟨Qa d h.1,Qa d h.2.1,Qa d h.2.2⟩
theorem Fr.kept {b:World} (h:Fr w g) (hg:g<w.heap.size) (a:Bl w b):Fr b g:=by
 obtain ⟨h0,h1,h2,h3,h4,h5⟩:=h;exact ⟨(a.frozen (p:=⟨g,0,none⟩) hg).trans h0,(a.frozen (p:=⟨g,1,none⟩) hg).trans h1,(a.frozen (p:=⟨g,2,none⟩) hg).trans h2,(a.frozen (p:=⟨g,3,none⟩) hg).trans h3,(a.frozen (p:=⟨g,4,none⟩) hg).trans h4,(a.frozen (p:=⟨g,5,none⟩) hg).trans h5⟩
theorem Mp.lt {a c d e f:Int} (h:Mp w g a b c d e f):g<w.heap.size:=World.block_lt_of_cell? (w:=w) (a:=⟨g,0,none⟩) h.1
theorem Pt.lt {a:Int} (h:Pt w g a b):g<w.heap.size:=World.block_lt_of_cell? (w:=w) (a:=⟨g,0,none⟩) h.1
theorem Tr.lt {a c:Int} (h:Tr w g a b c):g<w.heap.size:=World.block_lt_of_cell? (w:=w) (a:=⟨g,0,none⟩) h.1
theorem Qk {o:Obj} (h:w.cell? a=some v):(w.alloc o).cell? a=some v:=(World.cell?_alloc_lt _ _ _ (bk h)).trans h
theorem Qq (h:w.cell? a=some v):w.drew.cell? a=some v:=h
def Row (w:World) (a:Option Addr) (zs:List Int):Prop :=
 ∀ i (h:i<zs.length),∃ b off,a=Ad b off∧At w b (off+i) (I zs[i])
theorem Row.kept {a:Option Addr} (h:Row w a zs) (d:Bl w c):Row c a zs:=fun i hi=>by
 obtain ⟨b,off,e,f⟩:=h i hi;exact ⟨b,off,e,Qa d f⟩
def maskB (zs:List Int):Bool:=zs.all fun z=>decide (0≤z∧z≤15)
def sideB (n:Int):Bool:=decide (1≤n∧n≤8)
theorem Jm (n:Int) (w:World) :
  Cl 40 #[I n] w fun e w'=>e=.returned (.bool (sideB n))∧w'=w:=by
 go_enter Tryz.func40,Tryz.ntmps40;go_wp2
 all_goals
  go_ret;exact ⟨Qv (by rw [Bool.eq_iff_iff];simp_all [sideB] <;> omega),rfl⟩
theorem mask_at (h:maskB zs=false) (hp:∀ i (hi:i<zs.length),0≤zs[i]∧zs[i]≤15):False:=by
 have:maskB zs=true:=by
  simp only [maskB,List.all_eq_true,decide_eq_true_eq];intro z a;obtain ⟨i,hi,rfl⟩:=List.getElem_of_mem a;exact hp i hi
 rw [this] at h;exact Bool.noConfusion h
theorem Zc (W H:Int) (a:Option Addr) (d:Nat) (zs:List Int) (c:Value) (w:World) (q:sideB W=true) (p:sideB H=true) (hr:Row w a zs) (v:(zs.length:Int)=W*H) :
  Cl 41 #[.agg #[I W,I H,.slice a zs.length d,c]] w fun e w'=>e=.returned (.bool (maskB zs))∧∃ o,w'=w.alloc o:=by
 have b1:1≤W∧W≤8:=by simpa [sideB] using q
 have b2:1≤H∧H≤8:=by simpa [sideB] using p
 have x:0≤W*H∧W*H≤64:=by
  have h1:W=1∨W=2∨W=3∨W=4∨W=5∨W=6∨W=7∨W=8:=γ;rcases h1 with rfl | rfl | rfl | rfl | rfl | rfl | rfl | rfl <;> omega
 have m:=Hd hr;clear hr;go_enter Tryz.func41,Tryz.ntmps41;go_wp2;go_loopg [17] zs.length (fun g j u=>∃ n:Nat,n≤zs.length∧g=zs.length - n∧j=I n∧(∀ i (hi:i<zs.length),i<n→0≤zs[i]∧zs[i]≤15)∧u=w.alloc (.cells #[I W,I H,.slice a zs.length d,c] 25))
 case atStart=>exact ⟨0,γ,rfl,rfl,fun i _ h=>by omega,rfl⟩
 case round =>
  obtain ⟨n,y,rfl,rfl,hp,rfl⟩:=hrel;have k:=Hd hp;clear hp;by_cases h1:n<zs.length
  ·obtain ⟨b,off,rfl,l⟩:=m.out n h1;have s:(n:Int)<(zs.length:Int):=γ;have A:(0:Int)≤(n:Int):=γ;have t:(w.alloc (.cells #[I W,I H,.slice (Ad b off) zs.length d,c] 25)).cell? ⟨b,off+n,none⟩=some (I zs[n]):=Qk l;obtain ⟨z,r⟩:∃ z,z=zs[n]:=⟨_,rfl⟩;rw [← r] at t;clear l;by_cases g1:z<0
   ·have f:Hid (maskB zs=false):=by
     show maskB zs=false
     simp only [maskB,List.all_eq_false,decide_eq_true_eq];exact ⟨zs[n],Lm h1,γ⟩
    go_wp2;go_ret;exact ⟨by rw [f.out];rfl,_,rfl⟩
   ·by_cases g2:15<z
    ·have f:Hid (maskB zs=false):=by
      show maskB zs=false
      simp only [maskB,List.all_eq_false,decide_eq_true_eq];exact ⟨zs[n],Lm h1,γ⟩
     go_wp2;go_ret;exact ⟨by rw [f.out];rfl,_,rfl⟩
    ·go_wp2;go_roundg (zs.length - (n+1))
     case measure=>omega
     case rel =>
      refine ⟨n+1,γ,rfl,σ,fun i hi h=>?_,rfl⟩;by_cases e:i=n
      ·subst e;omega
      ·exact k.out i hi γ
  ·have s:¬ (n:Int)<(zs.length:Int):=γ
   have f:Hid (maskB zs=true):=by
    show maskB zs=true
    by_cases h:maskB zs=true
    ·exact h
    ·exact (mask_at (by simpa using h) (fun i hi=>k.out i hi γ)).elim
   go_wp2;go_ret;exact ⟨by rw [f.out];rfl,_,rfl⟩
def cellsB (W H:Int) (zs:List Int):Bool:=sideB W && sideB H && decide ((zs.length:Int)=W*H) && maskB zs
theorem inf3:(Tryz.prog.info? 3).map (fun i=>(i.zero,i.size,i.bytes))=some (some (I 0),1,8):=η
def Sh (w:World) (g:Nat) (v0 v1 v2 v3:Value):Prop :=
 At w g 0 v0∧At w g 1 v1∧At w g 2 v2∧At w g 3 v3
theorem Sh.kept {d:World} {v0 b c v3:Value} (h:Sh w g v0 b c v3) (a:Bl w d):Sh d g v0 b c v3 :=
 ⟨Qa a h.1,Qa a h.2.1,Qa a h.2.2.1,Qa a h.2.2.2⟩
theorem Sh.lt {v0 a b v3:Value} (h:Sh w g v0 a b v3):g<w.heap.size:=bk h.1
theorem row_at {a:Option Addr} (h:Row w a zs) (d:0<zs.length):∃ b off,a=Ad b off∧∀ j u,(zs.map (fun z=>I z))[j]?=some u→w.cell? ((⟨b,off,none⟩:Addr).add j)=some u:=by
 obtain ⟨b,off,rfl,_⟩:=h 0 d;refine ⟨b,off,rfl,fun j u f=>?_⟩
 have g:j<zs.length:=by
  have:=List.getElem?_eq_some_iff.1 f;simpa using this.1
 obtain ⟨l,i,e,k⟩:=h j g;simp at e;obtain ⟨rfl,rfl⟩:=e;have c:(⟨b,off,none⟩:Addr).add j=⟨b,off+j,none⟩:=by unfold Addr.add;split <;> simp_all
 rw [c,k];simp [g] at f;exact congrArg some f
def RowF (w:World) (base:Nat) (a:Option Addr) (zs:List Int):Prop :=
 ∀ i (h:i<zs.length),∃ b off,a=Ad b off∧base≤b∧At w b (off+i) (I zs[i])
theorem RowF.row {a:Option Addr} (h:RowF w base a zs):Row w a zs:=fun i hi=>by
 obtain ⟨b,off,e,_,c⟩:=h i hi;exact ⟨b,off,e,c⟩
theorem RowF.kept {a:Option Addr} (h:RowF w base a zs) (d:Bl w c):RowF c base a zs:=fun i hi=>by
 obtain ⟨b,off,e,g,f⟩:=h i hi;exact ⟨b,off,e,g,Qa d f⟩
theorem Qo (h:w.cell? a=some v) (b:a.block≠p.block):(w.setCell p u).cell? a=some v:=by
 have:=World.cell?_of_block (w:=w) (w':=w.setCell p u) (a:=a) (Below.heap_setCell w p u a.block b);exact this.trans h
theorem RowF.set {a:Option Addr} (h:RowF w base a zs) (hp:p.block<base):RowF (w.setCell p u) base a zs:=fun i hi=>by
 obtain ⟨b,off,e,d,c⟩:=h i hi;exact ⟨b,off,e,d,Qo c θ⟩
theorem RowF.low {base':Nat} {a:Option Addr} (h:RowF w base a zs) (f:base'≤base):RowF w base' a zs:=fun i hi=>by
 obtain ⟨b,off,e,d,c⟩:=h i hi;exact ⟨b,off,e,γ,c⟩
theorem own_row {e:TypeId} {size:Nat} (h:w.ownsRow base e size v n (zs.map (fun z=>I z))) (f:0<n) :
  ∃ g a,v=.slice (Az g) n a∧base≤g∧RowF w base (Az g) zs:=by
 have b:=h.1;rcases h.2 with ⟨_,h0⟩ | ⟨g,a,d,hv,c,_⟩
 ·omega
 ·subst hv;refine ⟨g,a,rfl,c,fun i hi=>⟨g,0,rfl,c, ?_⟩⟩;have:=h.cellAt i (by simp at b;omega);simp [hi] at this;simpa using this
theorem Ua (w:World) (base:Nat) (a:Option Addr):RowF w base a []:=fun i hi=>by simp at hi
def lessB (a b c d:Int):Bool:=decide (a<c∨(a=c∧b<d))
theorem edge_any (a b c d:Int) (w:World) :
  Cl 243 #[.agg #[I a,I b],.agg #[I c,I d]] w fun r w'=>r=.returned (if lessB c d a b=true then .agg #[I c,I d,I a,I b] else .agg #[I a,I b,I c,I d])∧∃ o1 o2 o3,w'=((w.alloc o1).alloc o2).alloc o3:=by
 by_cases h1:c<a
 ·have e:lessB c d a b=true:=by simp [lessB,h1]
  rw [if_pos e];clear e;go_enter Tryz.func243,Tryz.ntmps243;go_wp2;exact bodyPost_ret (v:=.agg #[I c,I d,I a,I b]) (by simp [results,Tryz.results243,go_sem]) rfl ⟨rfl,_,_,_,rfl⟩
 by_cases h2:c=a
 ·subst h2;by_cases h3:d<b
  ·have e:lessB c d c b=true:=by simp [lessB,h3]
   rw [if_pos e];clear e;go_enter Tryz.func243,Tryz.ntmps243;go_wp2;exact bodyPost_ret (v:=.agg #[I c,I d,I c,I b]) (by simp [results,Tryz.results243,go_sem]) rfl ⟨rfl,_,_,_,rfl⟩
  ·have e:¬ lessB c d c b=true:=by simp [lessB,h3]
   rw [if_neg e];clear e;go_enter Tryz.func243,Tryz.ntmps243;go_wp2;exact bodyPost_ret (v:=.agg #[I c,I b,I c,I d]) (by simp [results,Tryz.results243,go_sem]) rfl ⟨rfl,_,_,_,rfl⟩
 ·have e:¬ lessB c d a b=true:=by simp [lessB,h1,h2]
  rw [if_neg e];clear e;go_enter Tryz.func243,Tryz.ntmps243;go_wp2;exact bodyPost_ret (v:=.agg #[I a,I b,I c,I d]) (by simp [results,Tryz.results243,go_sem]) rfl ⟨rfl,_,_,_,rfl⟩
def eA (a b c d:Int):Int:=if lessB c d a b=true then c else a
def eB (a b c d:Int):Int:=if lessB c d a b=true then d else b
def eC (a b c d:Int):Int:=if lessB c d a b=true then a else c
def eD (a b c d:Int):Int:=if lessB c d a b=true then b else d
theorem edge_num (a b c d:Int) (w:World) :
  Cl 243 #[.agg #[I a,I b],.agg #[I c,I d]] w fun r w'=>r=.returned (.agg #[I (eA a b c d),I (eB a b c d),I (eC a b c d),I (eD a b c d)])∧∃ o1 o2 o3,w'=((w.alloc o1).alloc o2).alloc o3:=by
 refine (edge_any a b c d w).mono ?_;rintro r w' ⟨rfl,h⟩;refine ⟨?_,h⟩
 cases e:lessB c d a b <;> simp [eA,eB,eC,eD,e]
attribute [local go_sem ↓] Go.wp_at_zero Go.wp_at_succ
def dot (p q x y:Int):Int:=p*x+q*y
theorem Xy {u x M:Int} (h1 : -1≤u) (h2:u≤1) (h3 : -M≤x) (h4:x≤M) : -M≤u*x∧u*x≤M:=by
 have a:u=-1∨u=0∨u=1:=γ;rcases a with rfl | rfl | rfl <;> omega
theorem Zu {p q x y M:Int} (h1 : -1≤p) (h2:p≤1) (h3 : -1≤q) (h4:q≤1) (h5 : -M≤x) (h6:x≤M) (c : -M≤y) (d:y≤M) : -(2*M)≤dot p q x y∧dot p q x y≤2*M:=by
 have a:=Xy h1 h2 h5 h6;have b:=Xy h3 h4 c d;unfold dot;omega
def Sm (a b c d:Int):Prop:=(-1≤a∧a≤1)∧(-1≤b∧b≤1)∧(-1≤c∧c≤1)∧(-1≤d∧d≤1)
theorem turn_any (a b c d e f x y:Int) (w:World) (hs:Sm a b c d) (h1 : -4000000≤x) (h2:x≤4000000) (h3 : -4000000≤y) (h4:y≤4000000) :
  Cl 189 #[.agg #[I a,I b,I c,I d,I e,I f],.agg #[I x,I y]] w fun r w'=>r=.returned (.agg #[I (dot a b x y),I (dot c d x y)])∧∃ o1 o2 o3,w'=((w.alloc o1).alloc o2).alloc o3:=by
 obtain ⟨⟨a1,g⟩,⟨b1,b2⟩,⟨c1,c2⟩,⟨d1,d2⟩⟩:=hs;obtain ⟨h,i⟩:=Xy a1 g h1 h2;obtain ⟨j,k⟩:=Xy b1 b2 h3 h4;obtain ⟨l,m⟩:=Xy c1 c2 h1 h2;obtain ⟨n,o⟩:=Xy d1 d2 h3 h4;go_enter Tryz.func189,Tryz.ntmps189;go_wp2;exact bodyPost_ret (v:=.agg #[I (dot a b x y),I (dot c d x y)]) (by simp [results,Tryz.results189,go_sem,dot]) rfl ⟨rfl,_,_,_,rfl⟩
theorem image_any (a b c d e f x y:Int) (w:World) (hs:Sm a b c d) (p : -1000000≤e∧e≤1000000) (q : -1000000≤f∧f≤1000000) (h1 : -4000000≤x) (h2:x≤4000000) (h3 : -4000000≤y) (h4:y≤4000000) :
  Cl 187 #[.agg #[I a,I b,I c,I d,I e,I f],.agg #[I x,I y]] w fun r w'=>r=.returned (.agg #[I (dot a b x y+e),I (dot c d x y+f)])∧∃ o1 o2 o3 g h i j k o9,w'=(((((((((w.alloc o1).alloc o2).alloc o3).alloc g).alloc h).alloc i).alloc j).alloc k).alloc o9).drew:=by
 have m:=Zu hs.1.1 hs.1.2 hs.2.1.1 hs.2.1.2 h1 h2 h3 h4;have n:=Zu hs.2.2.1.1 hs.2.2.1.2 hs.2.2.2.1 hs.2.2.2.2 h1 h2 h3 h4;have l:=Hd hs;clear hs;go_enter Tryz.func187,Tryz.ntmps187;go_wp2
 go_region_held3 (fun w'=>(At w' w.heap.size 0 (I a)∧At w' w.heap.size 1 (I b)∧At w' w.heap.size 2 (I c)∧At w' w.heap.size 3 (I d)∧At w' w.heap.size 4 (I e)∧At w' w.heap.size 5 (I f))
   ∧ At w' (w.heap.size+1) 0 (I x)∧At w' (w.heap.size+1) 1 (I y))
  (simp [go_sem,Ca])
  (first | (go_at_call 189;refine (turn_any _ _ _ _ _ _ _ _ _ l.out γ γ γ γ).mono ?_;rintro e o ⟨rfl,o3,g,h,rfl⟩) | (go_at_call 165;refine (Xw _ _ _ _ _ γ γ γ γ γ γ γ γ).mono ?_;rintro e o ⟨rfl,i,j,k,rfl⟩))
 go_wp2;exact bodyPost_ret (v:=.agg #[I (dot a b x y+e),I (dot c d x y+f)]) (by simp [results,Tryz.results187,go_sem,Ca]) rfl ⟨rfl,_,_,_,_,_,_,_,_,_,rfl⟩
attribute [local go_sem ↓] Go.wp_at_zero Go.wp_at_succ
def outX (k:Int):Int:=if k=1 then 1 else if k=3 then -1 else 0
def outY (k:Int):Int:=if k=0 then -1 else if k=2 then 1 else 0
theorem outX_bd (k:Int) : -1≤outX k∧outX k≤1:=by unfold outX;split <;> (try split) <;> omega
theorem outY_bd (k:Int) : -1≤outY k∧outY k≤1:=by unfold outY;split <;> (try split) <;> omega
attribute [local go_sem ↓] Go.wp_at_zero Go.wp_at_succ
def Ef (e f:Int):Prop:=(-1000000≤e∧e≤1000000)∧(-1000000≤f∧f≤1000000)
theorem after_any (a b c d e f A B C D E F:Int) (w:World) (hs:Sm a b c d) (j:Sm A B C D) (k:Ef e f) (i:Ef E F) :
  Cl 196 #[.agg #[I a,I b,I c,I d,I e,I f],.agg #[I A,I B,I C,I D,I E,I F]] w fun r w' =>
   r=.returned (.agg #[I (dot A B a c),I (dot A B b d),I (dot C D a c),I (dot C D b d),I (dot A B e f+E),I (dot C D e f+F)])∧Bl w w':=by
 obtain ⟨⟨a1,p⟩,⟨b1,b2⟩,⟨c1,c2⟩,⟨d1,d2⟩⟩:=hs;obtain ⟨⟨e1,e2⟩,⟨f1,f2⟩⟩:=k;have h:=Hd j;have g:=Hd i;clear j i;go_enter Tryz.func196,Tryz.ntmps196;go_wp2_with (first | (go_at_call 189;refine (turn_any _ _ _ _ _ _ _ _ _ h.out γ γ γ γ).mono ?_;rintro e o ⟨rfl,o1,o2,o3,rfl⟩) | (go_at_call 187;refine (image_any _ _ _ _ _ _ _ _ _ h.out g.out.1 g.out.2 γ γ γ γ).mono ?_;rintro e o ⟨rfl,q,s,t,u,x,y,l,m,n,rfl⟩))
 refine bodyPost_ret (v:=.agg #[I (dot A B a c),I (dot A B b d),I (dot C D a c),I (dot C D b d),I (dot A B e f+E),I (dot C D e f+F)]) (by simp [results,Tryz.results196,go_sem,Ca]) rfl ⟨rfl, ?_⟩;with_reducible repeat (first | refine Qb ?_ | refine Qg ?_ | exact Qe _)
attribute [local go_sem ↓] Go.wp_at_zero Go.wp_at_succ
theorem half (X:Int):(2*X).tdiv 2=X:=by rw [Int.mul_comm];exact Int.mul_tdiv_cancel _ ψ
theorem Yr {b:Bool} (d:Bl w c) (e:w.cell? a=some v) (h:w.frozen? a=b):c.frozen? a=b:=(d.frozen (bk e)).trans h
theorem st_old (h:w.cell? a=some v) (b:a.block≠p.block):(w.setCell p u).cell? a=some v:=by
 have:=World.cell?_of_block (w:=w) (w':=w.setCell p u) (a:=a) (Below.heap_setCell w p u a.block b);exact this.trans h
theorem Yp {q r:Addr} {c d e:Value} (h:w.cell? a=some v) (b:a.block≠p.block∧a.block≠q.block∧a.block≠r.block):(((w.setCell p c).setCell q d).setCell r e).cell? a=some v :=
 st_old (st_old (st_old h b.1) b.2.1) b.2.2
theorem Steps.set3 {q r:Addr} {k l m:Value} (h:Steps w) (a:0≠p.block∧0≠q.block∧0≠r.block):Steps (((w.setCell p k).setCell q l).setCell r m):=by
 obtain ⟨b,c,d,e,f,g,i,j⟩:=h;exact ⟨Yp b a,Yp c a,Yp d a,Yp e a,Yp f a,Yp g a,Yp i a,Yp j a⟩
theorem dr_fz {b:Bool} (h:w.frozen? a=b):w.drew.frozen? a=b:=h
theorem Yi {n:Int} (h1 : -9000000000000000000≤n) (h2:n≤9000000000000000000):IntKind.i64.wrap n=n:=υ
theorem turn_to (a b c d e f x y p q:Int) (w:World) (hs:Sm a b c d) (h1 : -4000000≤x) (h2:x≤4000000) (h3 : -4000000≤y) (h4:y≤4000000) (hp:dot a b x y=p) (hq:dot c d x y=q) :
  Rt 189 #[.agg #[I a,I b,I c,I d,I e,I f],.agg #[I x,I y]] w (.agg #[I p,I q]):=by
 subst hp hq;refine (turn_any a b c d e f x y w hs h1 h2 h3 h4).mono ?_;rintro r w' ⟨rfl,o1,o2,o3,rfl⟩;exact ⟨rfl,Qb β2⟩
theorem Ur {α:Type} {lt : α → α→Prop} (hi:∀ x,¬ lt x x) (d:∀ x y z,lt x y→lt y z→lt x z):∀ {l m:List α},l.Pairwise lt→m.Pairwise lt→(∀ x,x∈l↔x∈m)→l=m
 | [],[],_,_,_=>rfl
 | [],b :: m,_,_,h=>by
  have:=(h b).2 ξ;simp at this
 | a :: l,[],_,_,h=>by
  have:=(h a).1 ξ;simp at this
 | a :: l,b :: m,h1,h2,h=>by
  rw [List.pairwise_cons] at h1 h2
  have e:a=b:=by
   have h3:=(h a).1 ξ;have h4:=(h b).2 ξ;rcases List.mem_cons.1 h3 with e | h3
   ·exact e
   ·rcases List.mem_cons.1 h4 with e | h4
    ·exact e.symm
    ·exact absurd (d _ _ _ (h2.1 a h3) (h1.1 b h4)) (hi b)
  subst e;rw [Ur hi d h1.2 h2.2 fun x=>?_];constructor
  ·intro c;rcases List.mem_cons.1 ((h x).1 (List.mem_cons_of_mem _ c)) with e | h3
   ·subst e;exact absurd (h1.1 x c) (hi x)
   ·exact h3
  ·intro c;rcases List.mem_cons.1 ((h x).2 (List.mem_cons_of_mem _ c)) with e | h3
   ·subst e;exact absurd (h2.1 x c) (hi x)
   ·exact h3
def ltT (a b:T3):Prop:=a.2.1<b.2.1∨(a.2.1=b.2.1∧(a.1<b.1∨(a.1=b.1∧a.2.2<b.2.2)))
theorem Jr (a:T3):¬ ltT a a:=by unfold ltT;omega
theorem Xq (a b c:T3) (h1:ltT a b) (h2:ltT b c):ltT a c:=by unfold ltT at *;omega
def Heap (n:Nat) (pl:Nat→Int×Int×Int) (h:Nat→Int) (S:List (T3×List Nat)):Prop :=
 S.Pairwise (fun a b=>ltT a.1 b.1)∧(∀ s∈S,s.2≠[]∧s.2.Pairwise (fun i j=>h i<h j)∧∀ j∈s.2,j<n∧pl j=s.1)∧∀ j,j<n→∃ s∈S,j∈s.2
theorem pair_same {S:List (T3×List Nat)} (h:S.Pairwise (fun a b=>ltT a.1 b.1)):∀ {s t},s∈S→t∈S→s.1=t.1→s=t:=by
 induction h with
 | nil=>intro s t hs;simp at hs
 | cons h1 _ ih =>
  intro s t hs f e;rcases List.mem_cons.1 hs with e1 | d
  ·rcases List.mem_cons.1 f with e2 | c
   ·rw [e1,e2]
   ·have:=h1 t c;rw [← e1,e] at this;exact absurd this (Jr _)
  ·rcases List.mem_cons.1 f with e2 | c
   ·have:=h1 s d;rw [← e2,e] at this;exact absurd this (Jr _)
   ·exact ih d c e
theorem Heap.mem {pl:Nat→Int×Int×Int} {S:List (T3×List Nat)} (H:Heap n pl h S) {s} (hs:s∈S) (k:Nat):k∈s.2↔k<n∧pl k=s.1:=by
 constructor
 ·exact (H.2.1 s hs).2.2 k
 ·rintro ⟨h1,h2⟩;obtain ⟨t,b,a⟩:=H.2.2 k h1;have:=((H.2.1 t b).2.2 k a).2;rw [← pair_same H.1 b hs (this.symm.trans h2)];exact a
theorem Heap.sub {pl:Nat→Int×Int×Int} {S T:List (T3×List Nat)} (H:Heap n pl h S) (K:Heap n pl h T) {s} (hs:s∈S):s∈T:=by
 obtain ⟨h1,h2,h3⟩:=H.2.1 s hs;obtain ⟨j,b⟩:=List.exists_mem_of_ne_nil _ h1;obtain ⟨t,a,c⟩:=K.2.2 j (h3 j b).1;have e1:t.1=s.1:=((K.2.1 t a).2.2 j c).2.symm.trans (h3 j b).2
 have e2:t.2=s.2:=Ur (lt:=fun i j=>h i<h j) (fun x=>by omega) (fun x y z=>by omega) (K.2.1 t a).2.1 h2 fun k=>by
  rw [K.mem a,H.mem hs,e1]
 rw [← show t=s from Prod.ext e1 e2];exact a
theorem Heap.one {pl:Nat→Int×Int×Int} {S T:List (T3×List Nat)} (H:Heap n pl h S) (K:Heap n pl h T):S=T :=
 Ur (lt:=fun a b=>ltT a.1 b.1) (fun _=>Jr _) (fun _ _ _=>Xq _ _ _) H.1 K.1 fun _=>⟨H.sub K,K.sub H⟩
theorem Qaa {a b:T3} (h1:¬ ltT a b) (h2:a≠b):ltT b a:=by
 unfold ltT at *;have c:¬ (a.1=b.1∧a.2.1=b.2.1∧a.2.2=b.2.2):=fun e=>h2 (Prod.ext e.1 (Prod.ext e.2.1 e.2.2));omega
end Go.Proofs.YtjkjpopghkeibaaGreatDoor
