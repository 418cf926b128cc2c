/- A part of it. -/
import Derived.Test.YtnpboeodhpenmaaGreatDoorProg
import Derived.WalkSpells
import Derived.WalkLawsBesides
import Derived.Deep.RegionHeld3
import Derived.Deep.DrawnRows
import Derived.Deep.DeepCutAuto
import Derived.Deep.CutBlock
import Derived.BigQuiet
set_option maxRecDepth 100000
set_option maxHeartbeats 40000000
namespace Go.Proofs.YtnpboeodhpenmaaGreatDoor
open Go.RowKit
variable {W w:World} {v:Value} {o p q:Obj} {g:Nat} {a:Addr} {b c:Int} {P:Program} {Q:Exit→Act→World→Prop}
abbrev T3:=Int×Int×Int
abbrev E4:=Int×Int×Int×Int
abbrev M6:=Int×Int×Int×Int×Int×Int
@[simp,go_sem] abbrev I (n:Int):Value:=.int .i64 n
@[simp,go_sem] abbrev SN:Value:=.slice none 0 0
@[simp,go_sem] abbrev Az (b:Nat):Option Addr:=some ⟨b,0,none⟩
@[simp,go_sem] abbrev Ad (b o:Nat):Option Addr:=some ⟨b,o,none⟩
@[simp,go_sem] abbrev At (w:World) (b o:Nat) (v:Value):Prop:=w.cell? ⟨b,o,none⟩=some v
abbrev Cl (f:FuncId) (a:Array Value) (w:World) (R:Ending→World→Prop):Prop:=Calls Tryz.prog f a w R
abbrev Bl (w w':World):Prop:=Below w.heap.size w w'
abbrev Rt (f:FuncId) (a:Array Value) (w:World) (v:Value):Prop:=Calls Tryz.prog f a w fun e w'=>e=.returned v∧Below w.heap.size w w'
theorem bk (h:w.cell? a=some v):a.block<w.heap.size:=World.block_lt_of_cell? _ _ h
theorem Bt {b o:Nat} (h:w.cell? ⟨b,o,none⟩=some v):b<w.heap.size:=World.block_lt_of_cell? (w:=w) (a:=⟨b,o,none⟩) h
@[simp,go_sem] abbrev Fn (w:World) (b o:Nat):Prop:=w.frozen? ⟨b,o,none⟩=false
theorem Fk (b o:Nat) {w':World} (hb:Below w.heap.size w w') (h:b<w.heap.size:=by simp <;> omega) (k:w.frozen? ⟨b,o,none⟩=false:=by simp [go_sem]):w'.frozen? ⟨b,o,none⟩=false:=(hb.frozen (p:=⟨b,o,none⟩) h).trans k
theorem Hd {p:Prop} (h:p):Hid p:=h
theorem H2 {p q:Prop} (a:p) (b:q):Hid (p∧q):=⟨a,b⟩
theorem H3 {p q r:Prop} (a:p) (b:q) (c:r):Hid (p∧q∧r):=⟨a,b,c⟩
theorem H4 {p q r s:Prop} (a:p) (b:q) (c:r) (d:s):Hid (p∧q∧r∧s):=⟨a,b,c,d⟩
theorem H5 {p q r s t:Prop} (a:p) (b:q) (c:r) (d:s) (e:t):Hid (p∧q∧r∧s∧t):=⟨a,b,c,d,e⟩
theorem H6 {p q r s t u:Prop} (a:p) (b:q) (c:r) (d:s) (e:t) (f:u):Hid (p∧q∧r∧s∧t∧u):=⟨a,b,c,d,e,f⟩
theorem H7 {p q r s t u v:Prop} (a:p) (b:q) (c:r) (d:s) (e:t) (f:u) (g:v):Hid (p∧q∧r∧s∧t∧u∧v):=⟨a,b,c,d,e,f,g⟩
theorem H8 {p q r s t u v x:Prop} (a:p) (b:q) (c:r) (d:s) (e:t) (f:u) (g:v) (h:x):Hid (p∧q∧r∧s∧t∧u∧v∧x):=⟨a,b,c,d,e,f,g,h⟩
theorem Ap:(∀ (a:Act) (d:Tmp) (v:Value),a.put (some d) v={ a with tmps:=a.tmps.setIfInBounds d v })∧(∀ (a:Act) (v:Value),a.put none v=a)∧(∀ {α:Type} (l:List α) (i:Nat) (h:i<l.toArray.size),l.toArray[i]=l[i]'(by simpa using h))∧(∀ {α:Type} (a:α) (l:List α) (i:Nat) (h:i+1<(a::l).length),(a::l)[i+1]=l[i]'(by simpa using h))∧(∀ {α:Type} (a:α) (l:List α) (h:0<(a::l).length),(a::l)[0]=a)∧(∀ {α:Type} (l:List α) (i:Nat) (a:α),l.toArray.setIfInBounds i a=(l.set i a).toArray)∧(∀ {α:Type} (a b:α) (l:List α),(a::l).set 0 b=b::l)∧(∀ {α:Type} (a b:α) (l:List α) (n:Nat),(a::l).set (n+1) b=a::l.set n b):=⟨fun _ _ _=>rfl,fun _ _=>rfl,fun _ _ _=>rfl,fun _ _ _ _=>rfl,fun _ _ _=>rfl,fun _ _ _=>List.setIfInBounds_toArray _ _ _,fun _ _ _=>rfl,fun _ _ _ _=>rfl⟩
abbrev Ca:=@World.cell?_alloc_past
abbrev Fz:=@World.frozen?_setCell
abbrev Fo:=@World.frozen?_of_block
abbrev Co:=@World.cell?_setCell_other
abbrev Cs:=@World.cell?_setCell_same
abbrev Lm:=@List.getElem_mem
abbrev Nl:=@Nat.lt_of_lt_of_le
abbrev Nt:=@Nat.le_trans
abbrev Nr:=@Nat.le_refl
theorem β1:Below w.heap.size w (w.alloc o):=(Below.refl _ _).alloc (Nat.le_refl _) _
theorem β2:Below w.heap.size w ((w.alloc o).alloc p):=β1.alloc β1.size _
theorem β3:Below w.heap.size w (((w.alloc o).alloc p).alloc q):=β2.alloc β2.size _
theorem β4 {r:Obj}:Below w.heap.size w ((((w.alloc o).alloc p).alloc q).alloc r):=β3.alloc β3.size _
theorem β5 {r s:Obj}:Below w.heap.size w (((((w.alloc o).alloc p).alloc q).alloc r).alloc s):=β4.alloc β4.size _
theorem γ {P:Prop} (h:P:=by omega):P:=h
theorem δ {P:Prop} (h:P:=by simp [go_sem]):P:=h
theorem ε {P:Prop} (h:P:=by first | (simp [go_sem];done) | (simp [go_sem,Ca];done)):P:=h
theorem ζ {P:Prop} (h:P:=by with_reducible (repeat (first | assumption | refine Qq ?_ | refine Qk ?_))):P:=h
theorem η {P:Prop} (h:P:=by kernel_rfl):P:=h
theorem θ {P:Prop} (h:P:=by dsimp only;omega):P:=h
theorem κ {P:Prop} (h:P:=by first | rfl | (dsimp only;omega)):P:=h
theorem μ {P:Prop} (h:P:=by first | (with_reducible (repeat (first | assumption | refine Qq ?_ | refine Qk ?_));done) | (simp [go_sem];done)):P:=h
theorem ν {P:Prop} (h:P:=by rw [hW0];simp [go_sem]):P:=h
theorem ξ {P:Prop} (h:P:=by simp):P:=h
theorem π {P:Prop} (h:P:=by simp <;> omega):P:=h
theorem σ {P:Prop} (h:P:=by go_num):P:=h
theorem τ {P:Prop} (h:P:=by with_reducible repeat (first | refine Qb ?_ | refine Qg ?_ | exact Qe _)):P:=h
theorem υ {P:Prop} (h:P:=by rw [IntKind.wrap_i64];omega):P:=h
theorem φ {P:Prop} (h:P:=by with_reducible repeat (first | exact Qe _ | refine Qg ?_)):P:=h
theorem χ {P:Prop} (h:P:=by assumption):P:=h
theorem ψ {P:Prop} (h:P:=by decide):P:=h
theorem ω {P:Prop} (h:P:=by simp;omega):P:=h
theorem Γ {P:Prop} (h:P:=by with_reducible assumption):P:=h
theorem Δ {P:Prop} (h:P:=by go_split_ands;first | assumption | exact Steps.kept (by assumption) (Qg (Qe _))):P:=h
theorem Θ {P:Prop} (h:P:=by with_reducible exact Qb (Qe _)):P:=h
theorem Ξ {P:Prop} (h:P:=by unfold maxLen;omega):P:=h
theorem Φ {P:Prop} (h:P:=by unfold Kd;dsimp only;omega):P:=h
theorem Ψ {P:Prop} (h:P:=by with_reducible exact Qb β1):P:=h
theorem Ω {P:Prop} (h:P:=by rfl):P:=h
theorem γ0 {P:Prop} (h:P:=by with_reducible (repeat (first | assumption | refine Qq ?_))):P:=h
theorem γ1 {P:Prop} (h:P:=by with_reducible repeat (first | exact Qe _ | refine Qg ?_ | refine Qb ?_)):P:=h
theorem γ2 {P:Prop} (h:P:=by rw [hW1];simp [go_sem]):P:=h
theorem γ3 {P:Prop} (h:P:=by first | (simp [go_sem];done) | (simp [go_sem, *];done)):P:=h
theorem γ4 {P:Prop} (h:P:=by rw [hW0];exact Qb (Qe _)):P:=h
theorem γ5 {P:Prop} (h:P:=by simp [sideB];omega):P:=h
theorem γ6 {P:Prop} (h:P:=by rw [List.length_take];omega):P:=h
theorem γ7 {P:Prop} (h:P:=by go_split_ands;with_reducible first | assumption | exact Steps.kept (by assumption) (Qg (Qe _)) | exact Steps.kept (by assumption) (by assumption)):P:=h
theorem γ8 {P:Prop} (h:P:=by simp [Tr,go_sem]):P:=h
theorem γ9 {P:Prop} (h:P:=by first | rfl | go_num | (congr 1 <;> omega)):P:=h
theorem δ0 {P:Prop} (h:P:=by first | rfl | go_num):P:=h
theorem δ1 {P:Prop} (h:P:=by simp;try omega):P:=h
theorem δ2 {P:Prop} (h:P:=by simp [Value.ownBlock]):P:=h
theorem δ3 {P:Prop} (h:P:=by simp [Mp,go_sem]):P:=h
theorem δ4 {P:Prop} (h:P:=by with_reducible (first | exact Qg β1 | exact Qb (Qg (Qe _)))):P:=h
def inB (n a b:Int):Bool:=decide (a≤n∧n≤b)
def evenB (n:Int):Bool:=decide (-1000000≤n∧n≤1000000∧n % 2=0)
def unitB (n:Int):Bool:=decide (n=1∨n=-1)
def triB (x y k:Int):Bool:=decide (0≤k∧k≤3∧-1000000≤x∧x≤1000000∧-1000000≤y∧y≤1000000)
def lineB (way c:Int):Bool:=decide (0≤way∧way≤3∧-1000000≤c∧c≤1000000∧c % 2=0)
theorem Qv {a b:Bool} (h:a=b):Ending.returned (.bool a)=.returned (.bool b):=by rw [h]
theorem Jp {k:IntKind} {a:Int} (h:a=b):Ending.returned (.int k a)=.returned (.int k b):=by rw [h]
theorem tmod2 (c:Int):c.tmod 2=0↔c % 2=0:=by rw [← Int.dvd_iff_tmod_eq_zero,Int.dvd_iff_emod_eq_zero]
theorem Jk (n a b:Int) (w:World) :
  Cl 136 #[I n,I a,I b] w fun e w'=>e=.returned (.bool (inB n a b))∧w'=w:=by
 go_enter Tryz.func136,Tryz.ntmps136;go_wp2
 all_goals
  go_ret;exact ⟨Qv (by rw [Bool.eq_iff_iff];simp [inB];omega),rfl⟩
theorem Qan (n:Int) (w:World) :
  Cl 176 #[I n] w fun e w'=>e=.returned (.bool (inB n 0 3))∧w'=w:=by
 go_enter Tryz.func176,Tryz.ntmps176;go_wp2
 all_goals
  go_ret;exact ⟨Qv (by rw [Bool.eq_iff_iff];simp [inB];omega),rfl⟩
theorem near_any (n:Int) (w:World) :
  Cl 177 #[I n] w fun e w'=>e=.returned (.bool (inB n (-1000000) 1000000))∧w'=w:=by
 go_enter Tryz.func177,Tryz.ntmps177;go_wp2
 all_goals
  go_ret;exact ⟨Qv (by rw [Bool.eq_iff_iff];simp [inB];omega),rfl⟩
theorem unit_any (n:Int) (w:World) :
  Cl 174 #[I n] w fun e w'=>e=.returned (.bool (unitB n))∧w'=w:=by
 go_enter Tryz.func174,Tryz.ntmps174;go_wp2
 all_goals
  go_ret;exact ⟨Qv (by rw [Bool.eq_iff_iff];simp_all [unitB]),rfl⟩
theorem Ul (n:Int) (w:World) :
  Cl 175 #[I n] w fun e w'=>e=.returned (.bool (evenB n))∧w'=w:=by
 by_cases h:inB n (-1000000) 1000000=true
 ·have a : -1000000≤n∧n≤1000000:=by simpa [inB] using h
  obtain ⟨b1,b2⟩:=a;go_enter Tryz.func175,Tryz.ntmps175;go_wp2_with (go_at_call 177;refine (near_any _ _).mono ?_;rintro e w' ⟨rfl,rfl⟩)
  go_ret;exact ⟨Qv (by rw [Bool.eq_iff_iff];simp [evenB,tmod2];omega),rfl⟩
 ·go_enter Tryz.func175,Tryz.ntmps175;go_wp2_with (go_at_call 177;refine (near_any _ _).mono ?_;rintro e w' ⟨rfl,rfl⟩)
  go_ret;exact ⟨Qv (by rw [Bool.eq_iff_iff];simp [evenB,inB] at h ⊢;omega),rfl⟩
theorem Xd (x y k:Int) (w:World) :
  Cl 88 #[.agg #[I x,I y,I k]] w fun e w'=>e=.returned (.bool (triB x y k))∧∃ o,w'=w.alloc o:=by
 go_enter Tryz.func88,Tryz.ntmps88;go_wp2_with (first | (go_at_call 176;refine (Qan _ _).mono ?_;rintro e w' ⟨rfl,rfl⟩) | (go_at_call 177;refine (near_any _ _).mono ?_;rintro e w' ⟨rfl,rfl⟩))
 all_goals
  go_ret;exact ⟨Qv (by rw [Bool.eq_iff_iff];simp_all [inB,triB];try omega),_,rfl⟩
theorem mayLine_any (y c:Int) (w:World) :
  Cl 92 #[.agg #[I y,I c]] w fun e w'=>e=.returned (.bool (lineB y c))∧∃ o,w'=w.alloc o:=by
 go_enter Tryz.func92,Tryz.ntmps92;go_wp2_with (first | (go_at_call 176;refine (Qan _ _).mono ?_;rintro e w' ⟨rfl,rfl⟩) | (go_at_call 175;refine (Ul _ _).mono ?_;rintro e w' ⟨rfl,rfl⟩))
 all_goals
  go_ret;exact ⟨Qv (by rw [Bool.eq_iff_iff];simp_all [inB,lineB,evenB];try omega),_,rfl⟩
attribute [local go_sem ↓] Go.wp_at_zero Go.wp_at_succ
theorem Xb (k q:Int) (w:World) (h0:0≤k) (h1:k≤3) (h2:0≤q) (h3:q≤3) :
  Cl 184 #[I k,I q] w fun e w'=>e=.returned (I ((k+q) % 4))∧w'=w:=by
 go_enter Tryz.func184,Tryz.ntmps184;go_wp2;go_ret;exact ⟨rfl,rfl⟩
theorem Yx (x y k:Int) (w:World) (h:triB x y k=true) :
  Cl 179 #[.agg #[I x,I y,I k]] w fun e w'=>e=.returned (.agg #[I (2*x+1),I (2*y+1)])∧∃ o1 o2,w'=(w.alloc o1).alloc o2:=by
 have a:0≤k∧k≤3∧-1000000≤x∧x≤1000000∧-1000000≤y∧y≤1000000:=by simpa [triB] using h
 obtain ⟨_,_,b1,b2,b3,b4⟩:=a;clear h;go_enter Tryz.func179,Tryz.ntmps179;go_wp2;exact bodyPost_ret (v:=.agg #[I (2*x+1),I (2*y+1)]) (by simp [results,Tryz.results179,go_sem]) rfl ⟨rfl,_,_,rfl⟩
theorem Xw (a b c d:Int) (w:World) (h1 : -10000000≤a) (h2:a≤10000000) (h3 : -10000000≤b) (h4:b≤10000000) (h5 : -10000000≤c) (h6:c≤10000000) (f : -10000000≤d) (g:d≤10000000) :
  Cl 183 #[.agg #[I a,I b],.agg #[I c,I d]] w fun e w'=>e=.returned (.agg #[I (a+c),I (b+d)])∧∃ o1 o2 o3,w'=((w.alloc o1).alloc o2).alloc o3:=by
 go_enter Tryz.func183,Tryz.ntmps183;go_wp2;exact bodyPost_ret (v:=.agg #[I (a+c),I (b+d)]) (by simp [results,Tryz.results183,go_sem]) rfl ⟨rfl,_,_,_,rfl⟩
def alongOf (y a b:Int):Int:=if y=0 then a else if y=1 then b else if y=2 then a+b else a - b
theorem valueOf_any (y a b:Int) (w:World) (h1 : -10000000≤a) (h2:a≤10000000) (h3 : -10000000≤b) (h4:b≤10000000) :
  Cl 221 #[I y,.agg #[I a,I b]] w fun e w'=>e=.returned (I (alongOf y a b))∧∃ o,w'=w.alloc o:=by
 go_enter Tryz.func221,Tryz.ntmps221;go_wp2
 all_goals
  go_ret;exact ⟨Jp (by simp_all [alongOf]),_,rfl⟩
def Steps (w:World):Prop :=
 At w 0 0 (I (-1))∧At w 0 1 (I (-1))∧At w 0 2 (I 1)∧At w 0 3 (I (-1)) ∧
 At w 0 4 (I 1)∧At w 0 5 (I 1)∧At w 0 6 (I (-1))∧At w 0 7 (I 1)
theorem Jw (h:w.cell? a=some v):a.block<w.heap.size:=bk h
theorem Jd {b:World} (c:Bl w b) (h:w.cell? a=some v):b.cell? a=some v:=(c.cell (Jw h)).trans h
theorem Steps.kept {b:World} (hs:Steps w) (a:Bl w b):Steps b:=by
 obtain ⟨c,d,e,f,g,h,i,j⟩:=hs;exact ⟨Jd a c,Jd a d,Jd a e,Jd a f,Jd a g,Jd a h,Jd a i,Jd a j⟩
def stX (k:Int):Int:=if k=1∨k=2 then 1 else -1
def stY (k:Int):Int:=if k=2∨k=3 then 1 else -1
def c1x (x k:Int):Int:=2*x+1+stX k
def c1y (y k:Int):Int:=2*y+1+stY k
def c2x (x k:Int):Int:=2*x+1+stX ((k+1) % 4)
def c2y (y k:Int):Int:=2*y+1+stY ((k+1) % 4)
theorem stX_bd (k:Int) : -1≤stX k∧stX k≤1:=by unfold stX;split <;> omega
theorem stY_bd (k:Int) : -1≤stY k∧stY k≤1:=by unfold stY;split <;> omega
theorem corners_0 (x y:Int) (w:World) (h:triB x y 0=true) (hs:Steps w) :
  Rt 94 #[.agg #[I x,I y,I 0]] w (.agg #[I (2*x+1),I (2*y+1),I (2*x+1 + -1),I (2*y+1 + -1),I (2*x+1+1),I (2*y+1 + -1)]):=by
 have a : -1000000≤x∧x≤1000000∧-1000000≤y∧y≤1000000:=by simpa [triB] using h
 obtain ⟨b1,b2,b3,b4⟩:=a;obtain ⟨c,j,k,l,m,n,o,p⟩:=hs;have f:0<w.heap.size:=Jw c;have b:¬ w.heap.size=0:=γ;go_enter Tryz.func94,Tryz.ntmps94;go_wp2_with (go_at_call 179;refine (Yx _ _ _ _ h).mono ?_;rintro e w1 ⟨rfl,o1,o2,rfl⟩)
 go_region_held3 (fun w'=>At w' (w.heap.size+1+1+1+1) 0 (I (2*x+1))∧At w' (w.heap.size+1+1+1+1) 1 (I (2*y+1))∧At w' w.heap.size 2 (I 0)
   ∧ At w' 0 0 (I (-1))∧At w' 0 1 (I (-1))∧At w' 0 2 (I 1)∧At w' 0 3 (I (-1)))
  (simp [go_sem,Ca, *])
  (first | (go_at_call 183;refine (Xw _ _ _ _ _ γ γ γ γ γ γ γ γ).mono ?_;rintro e d ⟨rfl,o3,g,i,rfl⟩) | (go_at_call 184;refine (Xb _ _ _ γ γ γ γ).mono ?_;rintro e d ⟨rfl,rfl⟩))
 go_wp2;refine bodyPost_ret (v:=.agg #[I (2*x+1),I (2*y+1),I (2*x+1 + -1),I (2*y+1 + -1),I (2*x+1+1),I (2*y+1 + -1)]) ?_ rfl ⟨rfl, ?_⟩
 ·simp [results,Tryz.results94,go_sem,Ca]
 ·repeat (first | exact Below.refl _ _ | refine Below.alloc ?_ δ1 _ | refine Below.drew ?_)
theorem corners_1 (x y:Int) (w:World) (h:triB x y 1=true) (hs:Steps w) :
  Rt 94 #[.agg #[I x,I y,I 1]] w (.agg #[I (2*x+1),I (2*y+1),I (2*x+1+1),I (2*y+1 + -1),I (2*x+1+1),I (2*y+1+1)]):=by
 have a : -1000000≤x∧x≤1000000∧-1000000≤y∧y≤1000000:=by simpa [triB] using h
 obtain ⟨b1,b2,b3,b4⟩:=a;obtain ⟨c,j,k,l,m,n,o,p⟩:=hs;have f:0<w.heap.size:=Jw c;have b:¬ w.heap.size=0:=γ;go_enter Tryz.func94,Tryz.ntmps94;go_wp2_with (go_at_call 179;refine (Yx _ _ _ _ h).mono ?_;rintro e w1 ⟨rfl,o1,o2,rfl⟩)
 go_region_held3 (fun w'=>At w' (w.heap.size+1+1+1+1) 0 (I (2*x+1))∧At w' (w.heap.size+1+1+1+1) 1 (I (2*y+1))∧At w' w.heap.size 2 (I 1)
   ∧ At w' 0 2 (I 1)∧At w' 0 3 (I (-1))∧At w' 0 4 (I 1)∧At w' 0 5 (I 1))
  (simp [go_sem,Ca, *])
  (first | (go_at_call 183;refine (Xw _ _ _ _ _ γ γ γ γ γ γ γ γ).mono ?_;rintro e d ⟨rfl,o3,g,i,rfl⟩) | (go_at_call 184;refine (Xb _ _ _ γ γ γ γ).mono ?_;rintro e d ⟨rfl,rfl⟩))
 go_wp2;refine bodyPost_ret (v:=.agg #[I (2*x+1),I (2*y+1),I (2*x+1+1),I (2*y+1 + -1),I (2*x+1+1),I (2*y+1+1)]) ?_ rfl ⟨rfl, ?_⟩
 ·simp [results,Tryz.results94,go_sem,Ca]
 ·repeat (first | exact Below.refl _ _ | refine Below.alloc ?_ δ1 _ | refine Below.drew ?_)
theorem corners_2 (x y:Int) (w:World) (h:triB x y 2=true) (hs:Steps w) :
  Rt 94 #[.agg #[I x,I y,I 2]] w (.agg #[I (2*x+1),I (2*y+1),I (2*x+1+1),I (2*y+1+1),I (2*x+1 + -1),I (2*y+1+1)]):=by
 have a : -1000000≤x∧x≤1000000∧-1000000≤y∧y≤1000000:=by simpa [triB] using h
 obtain ⟨b1,b2,b3,b4⟩:=a;obtain ⟨c,j,k,l,m,n,o,p⟩:=hs;have f:0<w.heap.size:=Jw c;have b:¬ w.heap.size=0:=γ;go_enter Tryz.func94,Tryz.ntmps94;go_wp2_with (go_at_call 179;refine (Yx _ _ _ _ h).mono ?_;rintro e w1 ⟨rfl,o1,o2,rfl⟩)
 go_region_held3 (fun w'=>At w' (w.heap.size+1+1+1+1) 0 (I (2*x+1))∧At w' (w.heap.size+1+1+1+1) 1 (I (2*y+1))∧At w' w.heap.size 2 (I 2)
   ∧ At w' 0 4 (I 1)∧At w' 0 5 (I 1)∧At w' 0 6 (I (-1))∧At w' 0 7 (I 1))
  (simp [go_sem,Ca, *])
  (first | (go_at_call 183;refine (Xw _ _ _ _ _ γ γ γ γ γ γ γ γ).mono ?_;rintro e d ⟨rfl,o3,g,i,rfl⟩) | (go_at_call 184;refine (Xb _ _ _ γ γ γ γ).mono ?_;rintro e d ⟨rfl,rfl⟩))
 go_wp2;refine bodyPost_ret (v:=.agg #[I (2*x+1),I (2*y+1),I (2*x+1+1),I (2*y+1+1),I (2*x+1 + -1),I (2*y+1+1)]) ?_ rfl ⟨rfl, ?_⟩
 ·simp [results,Tryz.results94,go_sem,Ca]
 ·repeat (first | exact Below.refl _ _ | refine Below.alloc ?_ δ1 _ | refine Below.drew ?_)
theorem corners_3 (x y:Int) (w:World) (h:triB x y 3=true) (hs:Steps w) :
  Rt 94 #[.agg #[I x,I y,I 3]] w (.agg #[I (2*x+1),I (2*y+1),I (2*x+1 + -1),I (2*y+1+1),I (2*x+1 + -1),I (2*y+1 + -1)]):=by
 have a : -1000000≤x∧x≤1000000∧-1000000≤y∧y≤1000000:=by simpa [triB] using h
 obtain ⟨b1,b2,b3,b4⟩:=a;obtain ⟨c,j,k,l,m,n,o,p⟩:=hs;have f:0<w.heap.size:=Jw c;have b:¬ w.heap.size=0:=γ;go_enter Tryz.func94,Tryz.ntmps94;go_wp2_with (go_at_call 179;refine (Yx _ _ _ _ h).mono ?_;rintro e w1 ⟨rfl,o1,o2,rfl⟩)
 go_region_held3 (fun w'=>At w' (w.heap.size+1+1+1+1) 0 (I (2*x+1))∧At w' (w.heap.size+1+1+1+1) 1 (I (2*y+1))∧At w' w.heap.size 2 (I 3)
   ∧ At w' 0 6 (I (-1))∧At w' 0 7 (I 1)∧At w' 0 0 (I (-1))∧At w' 0 1 (I (-1)))
  (simp [go_sem,Ca, *])
  (first | (go_at_call 183;refine (Xw _ _ _ _ _ γ γ γ γ γ γ γ γ).mono ?_;rintro e d ⟨rfl,o3,g,i,rfl⟩) | (go_at_call 184;refine (Xb _ _ _ γ γ γ γ).mono ?_;rintro e d ⟨rfl,rfl⟩))
 go_wp2;refine bodyPost_ret (v:=.agg #[I (2*x+1),I (2*y+1),I (2*x+1 + -1),I (2*y+1+1),I (2*x+1 + -1),I (2*y+1 + -1)]) ?_ rfl ⟨rfl, ?_⟩
 ·simp [results,Tryz.results94,go_sem,Ca]
 ·repeat (first | exact Below.refl _ _ | refine Below.alloc ?_ δ1 _ | refine Below.drew ?_)
theorem Qar (x y k:Int) (w:World) (h:triB x y k=true) (hs:Steps w) :
  Rt 94 #[.agg #[I x,I y,I k]] w (.agg #[I (2*x+1),I (2*y+1),I (c1x x k),I (c1y y k),I (c2x x k),I (c2y y k)]):=by
 have a:k=0∨k=1∨k=2∨k=3:=by have:=h;simp [triB] at this;omega
 rcases a with rfl | rfl | rfl | rfl
 ·exact corners_0 x y w h hs
 ·exact corners_1 x y w h hs
 ·exact corners_2 x y w h hs
 ·exact corners_3 x y w h hs
theorem Qe (w:World):Bl w w:=Below.refl _ _
theorem Qb {v:World} (h:Bl w v):Bl w (v.alloc o):=h.alloc h.size _
theorem Qg {v:World} (h:Bl w v):Bl w v.drew:=h.drew
theorem Qr {v:World} {n:Nat} (h:Bl w v):Bl w (v.drewN n):=⟨h.os,h.tape,h.output,h.size,h.block⟩
theorem Qc {v u:World} (h:Bl w v) (k:Bl v u):Bl w u:=h.trans (k.mono h.size)
theorem Qh {v:World} {p:Addr} {u:Value} (h:Bl w v) (hp:w.heap.size≤p.block):Bl w (v.setCell p u):=h.setCell hp _
def Mp (w:World) (g:Nat) (a b c d e f:Int):Prop :=
 At w g 0 (I a)∧At w g 1 (I b)∧At w g 2 (I c)∧At w g 3 (I d)∧At w g 4 (I e)∧At w g 5 (I f)
def Pt (w:World) (g:Nat) (x y:Int):Prop:=At w g 0 (I x)∧At w g 1 (I y)
def Tr (w:World) (g:Nat) (x y k:Int):Prop:=At w g 0 (I x)∧At w g 1 (I y)∧At w g 2 (I k)
def Fr (w:World) (g:Nat):Prop :=
 Fn w g 0∧Fn w g 1∧Fn w g 2∧Fn w g 3∧Fn w g 4∧Fn w g 5
theorem Qa {b:World} (c:Bl w b) (h:w.cell? a=some v):b.cell? a=some v:=(c.cell (bk h)).trans h
theorem Mp.kept {j:World} {a d e f:Int} (h:Mp w g a b c d e f) (i:Bl w j):Mp j g a b c d e f:=by
 obtain ⟨h0,h1,h2,h3,h4,h5⟩:=h;exact ⟨Qa i h0,Qa i h1,Qa i h2,Qa i h3,Qa i h4,Qa i h5⟩
theorem Pt.kept {d:World} {a:Int} (h:Pt w g a b) (c:Bl w d):Pt d g a b:=⟨Qa c h.1,Qa c h.2⟩
theorem Tr.kept {e:World} {a:Int} (h:Tr w g a b c) (d:Bl w e):Tr e g a b c:=⟨Qa d h.1,Qa d h.2.1,Qa d h.2.2⟩
theorem Fr.kept {b:World} (h:Fr w g) (hg:g<w.heap.size) (a:Bl w b):Fr b g:=by
 obtain ⟨h0,h1,h2,h3,h4,h5⟩:=h;exact ⟨(a.frozen (p:=⟨g,0,none⟩) hg).trans h0,(a.frozen (p:=⟨g,1,none⟩) hg).trans h1,(a.frozen (p:=⟨g,2,none⟩) hg).trans h2,(a.frozen (p:=⟨g,3,none⟩) hg).trans h3,(a.frozen (p:=⟨g,4,none⟩) hg).trans h4,(a.frozen (p:=⟨g,5,none⟩) hg).trans h5⟩
theorem Mp.lt {a d e f:Int} (h:Mp w g a b c d e f):g<w.heap.size:=World.block_lt_of_cell? (w:=w) (a:=⟨g,0,none⟩) h.1
theorem Tr.lt {a:Int} (h:Tr w g a b c):g<w.heap.size:=World.block_lt_of_cell? (w:=w) (a:=⟨g,0,none⟩) h.1
theorem Qk (h:w.cell? a=some v):(w.alloc o).cell? a=some v:=(World.cell?_alloc_lt _ _ _ (bk h)).trans h
theorem Qq (h:w.cell? a=some v):w.drew.cell? a=some v:=h
def Row (w:World) (a:Option Addr) (zs:List Int):Prop :=
 ∀ i (h:i<zs.length),∃ b off,a=Ad b off∧At w b (off+i) (I zs[i])
theorem Row.kept {c:World} {a:Option Addr} {zs:List Int} (h:Row w a zs) (d:Bl w c):Row c a zs:=fun i hi=>by
 obtain ⟨b,off,e,f⟩:=h i hi;exact ⟨b,off,e,Qa d f⟩
def maskB (zs:List Int):Bool:=zs.all fun z=>decide (0≤z∧z≤15)
def sideB (n:Int):Bool:=decide (1≤n∧n≤8)
theorem Jm (n:Int) (w:World) :
  Cl 169 #[I n] w fun e w'=>e=.returned (.bool (sideB n))∧w'=w:=by
 go_enter Tryz.func169,Tryz.ntmps169;go_wp2
 all_goals
  go_ret;exact ⟨Qv (by rw [Bool.eq_iff_iff];simp_all [sideB] <;> omega),rfl⟩
theorem mask_at {zs:List Int} (h:maskB zs=false) (hp:∀ i (hi:i<zs.length),0≤zs[i]∧zs[i]≤15):False:=by
 have:maskB zs=true:=by
  simp only [maskB,List.all_eq_true,decide_eq_true_eq];intro z a;obtain ⟨i,hi,rfl⟩:=List.getElem_of_mem a;exact hp i hi
 rw [this] at h;exact Bool.noConfusion h
theorem mayMask_len (W H:Int) (a:Option Addr) (b:Nat) (zs:List Int) (c:Value) (w:World) (f:sideB W=true) (d:sideB H=true) (g:¬ (zs.length:Int)=W*H) :
  Cl 170 #[.agg #[I W,I H,.slice a zs.length b,c]] w fun e w'=>e=.returned (.bool false)∧∃ o,w'=w.alloc o:=by
 have b1:1≤W∧W≤8:=by simpa [sideB] using f
 have b2:1≤H∧H≤8:=by simpa [sideB] using d
 have h:0≤W*H∧W*H≤64:=by
  have h1:W=1∨W=2∨W=3∨W=4∨W=5∨W=6∨W=7∨W=8:=γ;rcases h1 with rfl | rfl | rfl | rfl | rfl | rfl | rfl | rfl <;> omega
 go_enter Tryz.func170,Tryz.ntmps170;go_wp2;go_ret;exact ⟨rfl,_,rfl⟩
theorem Zc (W H:Int) (a:Option Addr) (d:Nat) (zs:List Int) (c:Value) (w:World) (q:sideB W=true) (p:sideB H=true) (hr:Row w a zs) (v:(zs.length:Int)=W*H) :
  Cl 170 #[.agg #[I W,I H,.slice a zs.length d,c]] w fun e w'=>e=.returned (.bool (maskB zs))∧∃ o,w'=w.alloc o:=by
 have b1:1≤W∧W≤8:=by simpa [sideB] using q
 have b2:1≤H∧H≤8:=by simpa [sideB] using p
 have x:0≤W*H∧W*H≤64:=by
  have h1:W=1∨W=2∨W=3∨W=4∨W=5∨W=6∨W=7∨W=8:=γ;rcases h1 with rfl | rfl | rfl | rfl | rfl | rfl | rfl | rfl <;> omega
 have m:=Hd hr;clear hr;go_enter Tryz.func170,Tryz.ntmps170;go_wp2;go_loopg [17] zs.length (fun g j u=>∃ n:Nat,n≤zs.length∧g=zs.length - n∧j=I n∧(∀ i (hi:i<zs.length),i<n→0≤zs[i]∧zs[i]≤15)∧u=w.alloc (.cells #[I W,I H,.slice a zs.length d,c] 25))
 case atStart=>exact ⟨0,γ,rfl,rfl,fun i _ h=>by omega,rfl⟩
 case round =>
  obtain ⟨n,y,rfl,rfl,hp,rfl⟩:=hrel;have k:=Hd hp;clear hp;by_cases h1:n<zs.length
  ·obtain ⟨b,off,rfl,l⟩:=m.out n h1;have s:(n:Int)<(zs.length:Int):=γ;have A:(0:Int)≤(n:Int):=γ;have t:(w.alloc (.cells #[I W,I H,.slice (Ad b off) zs.length d,c] 25)).cell? ⟨b,off+n,none⟩=some (I zs[n]):=Qk l;obtain ⟨z,r⟩:∃ z,z=zs[n]:=⟨_,rfl⟩;rw [← r] at t;clear l;by_cases g1:z<0
   ·have f:Hid (maskB zs=false):=by
     show maskB zs=false
     simp only [maskB,List.all_eq_false,decide_eq_true_eq];exact ⟨zs[n],Lm h1,γ⟩
    go_wp2;go_ret;exact ⟨by rw [f.out];rfl,_,rfl⟩
   ·by_cases g2:15<z
    ·have f:Hid (maskB zs=false):=by
      show maskB zs=false
      simp only [maskB,List.all_eq_false,decide_eq_true_eq];exact ⟨zs[n],Lm h1,γ⟩
     go_wp2;go_ret;exact ⟨by rw [f.out];rfl,_,rfl⟩
    ·go_wp2;go_roundg (zs.length - (n+1))
     case measure=>omega
     case rel =>
      refine ⟨n+1,γ,rfl,σ,fun i hi h=>?_,rfl⟩;by_cases e:i=n
      ·subst e;omega
      ·exact k.out i hi γ
  ·have s:¬ (n:Int)<(zs.length:Int):=γ
   have f:Hid (maskB zs=true):=by
    show maskB zs=true
    by_cases h:maskB zs=true
    ·exact h
    ·exact (mask_at (by simpa using h) (fun i hi=>k.out i hi γ)).elim
   go_wp2;go_ret;exact ⟨by rw [f.out];rfl,_,rfl⟩
def lessB (a b c d:Int):Bool:=decide (a<c∨(a=c∧b<d))
theorem Xj (a b c d:Int) (w:World) :
  Cl 218 #[.agg #[I a,I b],.agg #[I c,I d]] w fun r w'=>r=.returned (.bool (lessB a b c d))∧∃ o1 o2,w'=(w.alloc o1).alloc o2:=by
 go_enter Tryz.func218,Tryz.ntmps218;go_wp2
 all_goals
  go_ret;exact ⟨Qv (by rw [Bool.eq_iff_iff];simp_all [lessB] <;> omega),_,_,rfl⟩
theorem edgeOf_turn (a b c d:Int) (w:World) (h:lessB c d a b=true) :
  Cl 131 #[.agg #[I a,I b],.agg #[I c,I d]] w fun r w'=>r=.returned (.agg #[I c,I d,I a,I b])∧∃ o1 o2 o3 o4 o5,w'=((((w.alloc o1).alloc o2).alloc o3).alloc o4).alloc o5:=by
 go_enter Tryz.func131,Tryz.ntmps131;go_wp2_with (go_at_call 218;refine (Xj _ _ _ _ _).mono ?_;rintro r w' ⟨rfl,o1,o2,rfl⟩)
 exact bodyPost_ret (v:=.agg #[I c,I d,I a,I b]) (by simp [results,Tryz.results131,go_sem]) rfl ⟨rfl,_,_,_,_,_,rfl⟩
theorem edgeOf_keep (a b c d:Int) (w:World) (h:lessB c d a b=false) :
  Cl 131 #[.agg #[I a,I b],.agg #[I c,I d]] w fun r w'=>r=.returned (.agg #[I a,I b,I c,I d])∧∃ o1 o2 o3 o4 o5,w'=((((w.alloc o1).alloc o2).alloc o3).alloc o4).alloc o5:=by
 go_enter Tryz.func131,Tryz.ntmps131;go_wp2_with (go_at_call 218;refine (Xj _ _ _ _ _).mono ?_;rintro r w' ⟨rfl,o1,o2,rfl⟩)
 exact bodyPost_ret (v:=.agg #[I a,I b,I c,I d]) (by simp [results,Tryz.results131,go_sem]) rfl ⟨rfl,_,_,_,_,_,rfl⟩
theorem edge_any (a b c d:Int) (w:World) :
  Cl 307 #[.agg #[I a,I b],.agg #[I c,I d]] w fun r w'=>r=.returned (if lessB c d a b=true then .agg #[I c,I d,I a,I b] else .agg #[I a,I b,I c,I d])∧∃ o1 o2 o3,w'=((w.alloc o1).alloc o2).alloc o3:=by
 by_cases h1:c<a
 ·have e:lessB c d a b=true:=by simp [lessB,h1]
  rw [if_pos e];clear e;go_enter Tryz.func307,Tryz.ntmps307;go_wp2;exact bodyPost_ret (v:=.agg #[I c,I d,I a,I b]) (by simp [results,Tryz.results307,go_sem]) rfl ⟨rfl,_,_,_,rfl⟩
 by_cases h2:c=a
 ·subst h2;by_cases h3:d<b
  ·have e:lessB c d c b=true:=by simp [lessB,h3]
   rw [if_pos e];clear e;go_enter Tryz.func307,Tryz.ntmps307;go_wp2;exact bodyPost_ret (v:=.agg #[I c,I d,I c,I b]) (by simp [results,Tryz.results307,go_sem]) rfl ⟨rfl,_,_,_,rfl⟩
  ·have e:¬ lessB c d c b=true:=by simp [lessB,h3]
   rw [if_neg e];clear e;go_enter Tryz.func307,Tryz.ntmps307;go_wp2;exact bodyPost_ret (v:=.agg #[I c,I b,I c,I d]) (by simp [results,Tryz.results307,go_sem]) rfl ⟨rfl,_,_,_,rfl⟩
 ·have e:¬ lessB c d a b=true:=by simp [lessB,h1,h2]
  rw [if_neg e];clear e;go_enter Tryz.func307,Tryz.ntmps307;go_wp2;exact bodyPost_ret (v:=.agg #[I a,I b,I c,I d]) (by simp [results,Tryz.results307,go_sem]) rfl ⟨rfl,_,_,_,rfl⟩
def eA (a b c d:Int):Int:=if lessB c d a b=true then c else a
def eB (a b c d:Int):Int:=if lessB c d a b=true then d else b
def eC (a b c d:Int):Int:=if lessB c d a b=true then a else c
def eD (a b c d:Int):Int:=if lessB c d a b=true then b else d
theorem edge_num (a b c d:Int) (w:World) :
  Cl 307 #[.agg #[I a,I b],.agg #[I c,I d]] w fun r w'=>r=.returned (.agg #[I (eA a b c d),I (eB a b c d),I (eC a b c d),I (eD a b c d)])∧∃ o1 o2 o3,w'=((w.alloc o1).alloc o2).alloc o3:=by
 refine (edge_any a b c d w).mono ?_;rintro r w' ⟨rfl,h⟩;refine ⟨?_,h⟩
 cases e:lessB c d a b <;> simp [eA,eB,eC,eD,e]
theorem edgeOf_num (a b c d:Int) (w:World) :
  Cl 131 #[.agg #[I a,I b],.agg #[I c,I d]] w fun r w'=>r=.returned (.agg #[I (eA a b c d),I (eB a b c d),I (eC a b c d),I (eD a b c d)])∧∃ o1 o2 o3 o4 o5,w'=((((w.alloc o1).alloc o2).alloc o3).alloc o4).alloc o5:=by
 cases e:lessB c d a b
 ·refine (edgeOf_keep a b c d w e).mono ?_;rintro r w' ⟨rfl,h⟩;exact ⟨by simp [eA,eB,eC,eD,e],h⟩
 ·refine (edgeOf_turn a b c d w e).mono ?_;rintro r w' ⟨rfl,h⟩;exact ⟨by simp [eA,eB,eC,eD,e],h⟩
def Six (w:World) (g:Nat) (a b c d e f:Int):Prop :=
 At w g 0 (I a)∧At w g 1 (I b)∧At w g 2 (I c)∧At w g 3 (I d)∧At w g 4 (I e)∧At w g 5 (I f)
theorem Below.drewN {B:Nat} {a:World} (h:Below B a w) (n:Nat):Below B a (w.drewN n):=⟨h.os,h.tape,h.output,h.size,h.block⟩
theorem six_of (x y k a b c d:Int) (h1:c1x x k=a) (h2:c1y y k=b) (h3:c2x x k=c) (h4:c2y y k=d) (h:Six w g (2*x+1) (2*y+1) a b c d):Six w g (2*x+1) (2*y+1) (c1x x k) (c1y y k) (c2x x k) (c2y y k):=by
 subst h1 h2 h3 h4;exact h
theorem cornersOf_0 (x y:Int) (w:World) (h:triB x y 0=true) :
  Cl 129 #[.agg #[I x,I y,I 0]] w fun e w'=>∃ g,e=.returned (.slice (Az g) 3 3)∧w.heap.size≤g∧Six w' g (2*x+1) (2*y+1) (c1x x 0) (c1y y 0) (c2x x 0) (c2y y 0)∧Bl w w':=by
 have a : -1000000≤x∧x≤1000000∧-1000000≤y∧y≤1000000:=by simpa [triB] using h
 obtain ⟨b1,b2,b3,b4⟩:=a
 have e1:Hid (c1x x 0=2*x+0∧c1y y 0=2*y+0∧c2x x 0=2*x+2∧c2y y 0=2*y+0):=by
  simp [Hid,c1x,c1y,c2x,c2y,stX,stY] <;> omega
 go_enter Tryz.func129,Tryz.ntmps129;go_wp2;go_quiet (fail)
 go_wp2;go_ret;refine ⟨_,rfl,γ,six_of x y 0 _ _ _ _ e1.out.1 e1.out.2.1 e1.out.2.2.1 e1.out.2.2.2 ?_, ?_⟩
 ·simp [Six,go_sem]
 ·repeat (first | exact Below.refl _ _ | refine Below.alloc ?_ δ1 _ | refine Below.drewN ?_ _)
theorem cornersOf_1 (x y:Int) (w:World) (h:triB x y 1=true) :
  Cl 129 #[.agg #[I x,I y,I 1]] w fun e w'=>∃ g,e=.returned (.slice (Az g) 3 3)∧w.heap.size≤g∧Six w' g (2*x+1) (2*y+1) (c1x x 1) (c1y y 1) (c2x x 1) (c2y y 1)∧Bl w w':=by
 have a : -1000000≤x∧x≤1000000∧-1000000≤y∧y≤1000000:=by simpa [triB] using h
 obtain ⟨b1,b2,b3,b4⟩:=a
 have e1:Hid (c1x x 1=2*x+2∧c1y y 1=2*y+0∧c2x x 1=2*x+2∧c2y y 1=2*y+2):=by
  simp [Hid,c1x,c1y,c2x,c2y,stX,stY] <;> omega
 go_enter Tryz.func129,Tryz.ntmps129;go_wp2;go_quiet (fail)
 go_wp2;go_ret;refine ⟨_,rfl,γ,six_of x y 1 _ _ _ _ e1.out.1 e1.out.2.1 e1.out.2.2.1 e1.out.2.2.2 ?_, ?_⟩
 ·simp [Six,go_sem]
 ·repeat (first | exact Below.refl _ _ | refine Below.alloc ?_ δ1 _ | refine Below.drewN ?_ _)
theorem cornersOf_2 (x y:Int) (w:World) (h:triB x y 2=true) :
  Cl 129 #[.agg #[I x,I y,I 2]] w fun e w'=>∃ g,e=.returned (.slice (Az g) 3 3)∧w.heap.size≤g∧Six w' g (2*x+1) (2*y+1) (c1x x 2) (c1y y 2) (c2x x 2) (c2y y 2)∧Bl w w':=by
 have a : -1000000≤x∧x≤1000000∧-1000000≤y∧y≤1000000:=by simpa [triB] using h
 obtain ⟨b1,b2,b3,b4⟩:=a
 have e1:Hid (c1x x 2=2*x+2∧c1y y 2=2*y+2∧c2x x 2=2*x+0∧c2y y 2=2*y+2):=by
  simp [Hid,c1x,c1y,c2x,c2y,stX,stY] <;> omega
 go_enter Tryz.func129,Tryz.ntmps129;go_wp2;go_quiet (fail)
 go_wp2;go_ret;refine ⟨_,rfl,γ,six_of x y 2 _ _ _ _ e1.out.1 e1.out.2.1 e1.out.2.2.1 e1.out.2.2.2 ?_, ?_⟩
 ·simp [Six,go_sem]
 ·repeat (first | exact Below.refl _ _ | refine Below.alloc ?_ δ1 _ | refine Below.drewN ?_ _)
theorem cornersOf_3 (x y:Int) (w:World) (h:triB x y 3=true) :
  Cl 129 #[.agg #[I x,I y,I 3]] w fun e w'=>∃ g,e=.returned (.slice (Az g) 3 3)∧w.heap.size≤g∧Six w' g (2*x+1) (2*y+1) (c1x x 3) (c1y y 3) (c2x x 3) (c2y y 3)∧Bl w w':=by
 have a : -1000000≤x∧x≤1000000∧-1000000≤y∧y≤1000000:=by simpa [triB] using h
 obtain ⟨b1,b2,b3,b4⟩:=a
 have e1:Hid (c1x x 3=2*x+0∧c1y y 3=2*y+2∧c2x x 3=2*x+0∧c2y y 3=2*y+0):=by
  simp [Hid,c1x,c1y,c2x,c2y,stX,stY] <;> omega
 go_enter Tryz.func129,Tryz.ntmps129;go_wp2;go_quiet (fail)
 go_wp2;go_ret;refine ⟨_,rfl,γ,six_of x y 3 _ _ _ _ e1.out.1 e1.out.2.1 e1.out.2.2.1 e1.out.2.2.2 ?_, ?_⟩
 ·simp [Six,go_sem]
 ·repeat (first | exact Below.refl _ _ | refine Below.alloc ?_ δ1 _ | refine Below.drewN ?_ _)
theorem cornersOf_any (x y k:Int) (w:World) (h:triB x y k=true) :
  Cl 129 #[.agg #[I x,I y,I k]] w fun e w'=>∃ g,e=.returned (.slice (Az g) 3 3)∧w.heap.size≤g∧Six w' g (2*x+1) (2*y+1) (c1x x k) (c1y y k) (c2x x k) (c2y y k)∧Bl w w':=by
 have a:k=0∨k=1∨k=2∨k=3:=by have:=h;simp [triB] at this;omega
 rcases a with rfl | rfl | rfl | rfl
 ·exact cornersOf_0 x y w h
 ·exact cornersOf_1 x y w h
 ·exact cornersOf_2 x y w h
 ·exact cornersOf_3 x y w h
structure Kin (W:World) where
 w:World
 h:Bl W w
theorem Kin.cells (W:World):∀ (n:Kin W) (b o:Nat),b<W.heap.size→n.w.cell? ⟨b,o,none⟩=W.cell? ⟨b,o,none⟩:=fun n b o a=>n.h.cell (p:=⟨b,o,none⟩) a
theorem wp_region_kin {e:Nat} {a:Act} {l:List Oper} (d:P.follows .mixedOrders=true) (c:Region.lexB .any l.toArray=true)
  (h:wpQuiet P l.toArray (fun w'=>∃ n:Kin W,w'=n.w) (fun b=>∀ w',(∃ n:Kin W,w'=n.w)→Q .normal b w') l a):(Code.region e l.toArray true).wp P Q a W :=
 wp_region_quiet (C:=fun w'=>∃ n:Kin W,w'=n.w) d c ⟨⟨W.drew,Qg (Qe _)⟩,rfl⟩ (by simpa using h)
theorem Qf {f:FuncId} {args:Array Value} {n:Kin W}
  (h:Calls P f args n.w fun e w'=>e=.returned v∧Below n.w.heap.size n.w w'):Calls P f args n.w fun e a=>e=.returned v∧∃ m:Kin W,a=m.w :=
 h.mono fun _ w' ⟨c,b⟩=>⟨c,⟨w',Qc n.h b⟩,rfl⟩
theorem Qi {c:Code} {a:Act} (h:∀ W,W=w→c.wp P Q a W):c.wp P Q a w:=h w rfl
theorem wk {id:Nat} {a:Act} {l:List Oper} (h:wpQuiet P l.toArray (fun w'=>∃ n:Kin W,w'=n.w) (fun a'=>∀ w',(∃ n:Kin W,w'=n.w)→Q .normal a' w') l a) (hm:P.follows .mixedOrders=true:=by kernel_rfl) (hB:Region.lexB .any l.toArray=true:=by kernel_rfl):(Code.region id l.toArray true).wp P Q a W:=wp_region_kin hm hB h
theorem kq1 {ops:Array Oper} {C:World→Prop} {R:Act→World→Prop} {a:Act} (h:∀ w',Below W.heap.size W w'→R a w'):wpQuiet P ops C (fun a'=>∀ w',(∃ n:Kin W,w'=n.w)→R a' w') [] a:=wpQuiet_nil (fun _ ⟨n,e⟩=>h _ (e ▸ n.h))
theorem kcn (W:World):(∀ (n:Kin W) (b o:Nat),b<W.heap.size→n.w.cell? ⟨b,o,none⟩=W.cell? ⟨b,o,none⟩)∧Nonempty (Kin W):=⟨Kin.cells W,⟨⟨W,Qe _⟩⟩⟩
section
variable {P:Program} {ops:Array Oper} {Q:Exit→Act→World→Prop} {S:World→Prop} {md:Region.Mode} {fuel:Nat} {listed:Array Bool} {a:Act} {w:World} {oi:Oper}
theorem Tk (i:Nat) (v:Value) {Z:Prop} (k:Z) (hi:ops[i]?=some oi:=by rfl) (hs:Region.noSelect ops=true:=by kernel_rfl) (hf:Region.free md ops listed i=true:=by kernel_rfl) (hr:(Region.ready md ops listed).contains i=true:=by kernel_rfl) (hQ:∀ c a w,Q (.panic c) (a.put oi.dst v) w→Q (.panic c) a w:=by exact fun _ _ _ h=>h) (hy:YieldsIf P ops S oi v a:=by exact Or.inl ⟨by rfl,by (intro w' hSw;(try dsimp only at hSw);go_simp)⟩) (hS:S w:=by assumption) (h:Z→wpAnyH P md ops Q S fuel (listed.setIfInBounds i true) (a.put oi.dst v) w:=by (intro z;(try simp only [Ap]);exact z)):wpAnyH P md ops Q S (fuel+1) listed a w:=wpAnyH_take hi hs hf hr hQ hy hS (h k)
theorem Rd (i:Nat) {o:Oper} (ho:ops[i]?=some o) (h:∀ K':Act→World→Prop,Shut (∀ a w,S w→(S w→wpAnyH P md ops Q S fuel (listed.setIfInBounds i true) a w)→K' a w)→if Region.wanted o (yielded ops a.tmps)=true then Oper.wp P o a w K' Q else K' (a.put o.dst undef) w) (hr:Region.ready md ops listed=[i]:=by kernel_rfl):wpAnyH P md ops Q S (fuel+1) listed a w:=wpAnyH_ready hr (by simp) (AllReadyH.cons ho h AllReadyH.nil)
end
theorem Tv {ops:Array Oper} {S:World→Prop} {md:Region.Mode} {fuel:Nat} {listed:Array Bool} {a:Act} {oi:Oper} (i:Nat) {Z:Prop} (k:Z) (hi:ops[i]?=some oi:=by rfl) (hs:Region.noSelect ops=true:=by kernel_rfl) (hf:Region.free md ops listed i=true:=by kernel_rfl) (hr:(Region.ready md ops listed).contains i=true:=by kernel_rfl) (hQ:∀ c a w,Q (.panic c) (a.put oi.dst v) w→Q (.panic c) a w:=by exact fun _ _ _ h=>h) (hy:YieldsIf P ops S oi v a:=by (refine Or.inl ⟨by rfl, ?_⟩;intro w hSw;(try dsimp only at hSw);go_simp;(try with_reducible rfl))) (hS:S w:=by assumption) (h:Z→wpAnyH P md ops Q S fuel (listed.setIfInBounds i true) (a.put oi.dst v) w:=by (intro z;(try simp only [Ap]);exact z)):wpAnyH P md ops Q S (fuel+1) listed a w:=wpAnyH_take hi hs hf hr hQ hy hS (h k)
end Go.Proofs.YtnpboeodhpenmaaGreatDoor
