/- A part of it. -/
import Derived.Test.YtbjmnlefkbhbdaaGreatDoorProg
import Derived.WalkSpells
import Derived.WalkLawsBesides
import Derived.Deep.RegionHeld3
import Derived.Deep.DrawnRows
import Derived.Deep.DeepCutAuto
import Derived.BigQuiet
import Derived.Shelf.Bits.Mul64
import Derived.Shelf.Slices.Turned
set_option maxRecDepth 100000
set_option maxHeartbeats 40000000
namespace Go.Proofs.YtbjmnlefkbhbdaaGreatDoor
open Go.RowKit
variable {W w:World} {v:Value} {a:Addr} {o p q:Obj} {b c d e f:Int} {P:Program} {g:Nat} {Q:Exit→Act→World→Prop}
abbrev T3:=Int×Int×Int
abbrev E4:=Int×Int×Int×Int
abbrev M6:=Int×Int×Int×Int×Int×Int
@[simp,go_sem] abbrev I (n:Int):Value:=.int .i64 n
@[simp,go_sem] abbrev SN:Value:=.slice none 0 0
@[simp,go_sem] abbrev Az (b:Nat):Option Addr:=some ⟨b,0,none⟩
@[simp,go_sem] abbrev Ad (b o:Nat):Option Addr:=some ⟨b,o,none⟩
@[simp,go_sem] abbrev At (w:World) (b o:Nat) (v:Value):Prop:=w.cell? ⟨b,o,none⟩=some v
abbrev Cl (f:FuncId) (a:Array Value) (w:World) (R:Ending→World→Prop):Prop:=Calls Tryz.prog f a w R
abbrev Bl (w w':World):Prop:=Below w.heap.size w w'
abbrev Rt (f:FuncId) (a:Array Value) (w:World) (v:Value):Prop:=Calls Tryz.prog f a w fun e w'=>e=.returned v∧Below w.heap.size w w'
theorem bk (h:w.cell? a=some v):a.block<w.heap.size:=World.block_lt_of_cell? _ _ h
theorem Bt {b o:Nat} (h:w.cell? ⟨b,o,none⟩=some v):b<w.heap.size:=World.block_lt_of_cell? (w:=w) (a:=⟨b,o,none⟩) h
@[simp,go_sem] abbrev Fn (w:World) (b o:Nat):Prop:=w.frozen? ⟨b,o,none⟩=false
theorem Fk (b o:Nat) {w':World} (hb:Below w.heap.size w w') (h:b<w.heap.size:=by simp <;> omega) (k:w.frozen? ⟨b,o,none⟩=false:=by simp [go_sem]):w'.frozen? ⟨b,o,none⟩=false:=(hb.frozen (p:=⟨b,o,none⟩) h).trans k
theorem Hd {p:Prop} (h:p):Hid p:=h
theorem H2 {p q:Prop} (a:p) (b:q):Hid (p∧q):=⟨a,b⟩
theorem H3 {p q r:Prop} (a:p) (b:q) (c:r):Hid (p∧q∧r):=⟨a,b,c⟩
theorem H4 {p q r s:Prop} (a:p) (b:q) (c:r) (d:s):Hid (p∧q∧r∧s):=⟨a,b,c,d⟩
theorem H5 {p q r s t:Prop} (a:p) (b:q) (c:r) (d:s) (e:t):Hid (p∧q∧r∧s∧t):=⟨a,b,c,d,e⟩
theorem H6 {p q r s t u:Prop} (a:p) (b:q) (c:r) (d:s) (e:t) (f:u):Hid (p∧q∧r∧s∧t∧u):=⟨a,b,c,d,e,f⟩
theorem H7 {p q r s t u v:Prop} (a:p) (b:q) (c:r) (d:s) (e:t) (f:u) (g:v):Hid (p∧q∧r∧s∧t∧u∧v):=⟨a,b,c,d,e,f,g⟩
theorem H8 {p q r s t u v x:Prop} (a:p) (b:q) (c:r) (d:s) (e:t) (f:u) (g:v) (h:x):Hid (p∧q∧r∧s∧t∧u∧v∧x):=⟨a,b,c,d,e,f,g,h⟩
theorem H9 {p q r s t u v x y:Prop} (a:p) (b:q) (c:r) (d:s) (e:t) (f:u) (g:v) (h:x) (i:y):Hid (p∧q∧r∧s∧t∧u∧v∧x∧y):=⟨a,b,c,d,e,f,g,h,i⟩
theorem Ap:(∀ (a:Act) (d:Tmp) (v:Value),a.put (some d) v={ a with tmps:=a.tmps.setIfInBounds d v })∧(∀ (a:Act) (v:Value),a.put none v=a)∧(∀ {α:Type} (l:List α) (i:Nat) (h:i<l.toArray.size),l.toArray[i]=l[i]'(by simpa using h))∧(∀ {α:Type} (a:α) (l:List α) (i:Nat) (h:i+1<(a::l).length),(a::l)[i+1]=l[i]'(by simpa using h))∧(∀ {α:Type} (a:α) (l:List α) (h:0<(a::l).length),(a::l)[0]=a)∧(∀ {α:Type} (l:List α) (i:Nat) (a:α),l.toArray.setIfInBounds i a=(l.set i a).toArray)∧(∀ {α:Type} (a b:α) (l:List α),(a::l).set 0 b=b::l)∧(∀ {α:Type} (a b:α) (l:List α) (n:Nat),(a::l).set (n+1) b=a::l.set n b):=⟨fun _ _ _=>rfl,fun _ _=>rfl,fun _ _ _=>rfl,fun _ _ _ _=>rfl,fun _ _ _=>rfl,fun _ _ _=>List.setIfInBounds_toArray _ _ _,fun _ _ _=>rfl,fun _ _ _ _=>rfl⟩
theorem Aq:(∀ (a:Act) (d:Tmp) (v:Value),a.put (some d) v={ a with tmps:=a.tmps.setIfInBounds d v })∧(∀ (a:Act) (v:Value),a.put none v=a)∧(∀ {α:Type} (l:List α) (i:Nat) (a:α),l.toArray.setIfInBounds i a=(l.set i a).toArray)∧(∀ {α:Type} (a b:α) (l:List α),(a::l).set 0 b=b::l)∧(∀ {α:Type} (a b:α) (l:List α) (n:Nat),(a::l).set (n+1) b=a::l.set n b):=⟨fun _ _ _=>rfl,fun _ _=>rfl,fun _ _ _=>List.setIfInBounds_toArray _ _ _,fun _ _ _=>rfl,fun _ _ _ _=>rfl⟩
abbrev Ca:=@World.cell?_alloc_past
abbrev Fz:=@World.frozen?_setCell
abbrev Fo:=@World.frozen?_of_block
abbrev Co:=@World.cell?_setCell_other
abbrev Cs:=@World.cell?_setCell_same
abbrev Lm:=@List.getElem_mem
abbrev Nl:=@Nat.lt_of_lt_of_le
abbrev Nt:=@Nat.le_trans
abbrev Nr:=@Nat.le_refl
theorem β1:Below w.heap.size w (w.alloc o):=(Below.refl _ _).alloc (Nat.le_refl _) _
theorem β2:Below w.heap.size w ((w.alloc o).alloc p):=β1.alloc β1.size _
theorem β3:Below w.heap.size w (((w.alloc o).alloc p).alloc q):=β2.alloc β2.size _
theorem β4 {r:Obj}:Below w.heap.size w ((((w.alloc o).alloc p).alloc q).alloc r):=β3.alloc β3.size _
theorem β5 {r s:Obj}:Below w.heap.size w (((((w.alloc o).alloc p).alloc q).alloc r).alloc s):=β4.alloc β4.size _
theorem γ {P:Prop} (h:P:=by omega):P:=h
theorem δ {P:Prop} (h:P:=by with_reducible (repeat (first | assumption | refine Qi ?_ | refine Ql ?_))):P:=h
theorem ε {P:Prop} (h:P:=by first | (simp [go_sem];done) | (simp [go_sem,Ca];done)):P:=h
theorem ζ {P:Prop} (h:P:=by simp [go_sem]):P:=h
theorem η {P:Prop} (h:P:=by rw [hW0];simp [go_sem]):P:=h
theorem θ {P:Prop} (h:P:=by dsimp only;omega):P:=h
theorem κ {P:Prop} (h:P:=by first | (with_reducible (repeat (first | assumption | refine Qi ?_ | refine Ql ?_));done) | (simp [go_sem];done)):P:=h
theorem μ {P:Prop} (h:P:=by kernel_rfl):P:=h
theorem ν {P:Prop} (h:P:=by simp):P:=h
theorem ξ {P:Prop} (h:P:=by first | rfl | (dsimp only;omega)):P:=h
theorem π {P:Prop} (h:P:=by assumption):P:=h
theorem σ {P:Prop} (h:P:=by go_num):P:=h
theorem τ {P:Prop} (h:P:=by decide):P:=h
theorem υ {P:Prop} (h:P:=by rw [IntKind.wrap_i64];omega):P:=h
theorem φ {P:Prop} (h:P:=by go_split_ands;first | assumption | exact Steps.kept (by assumption) (Qe (Qd _))):P:=h
theorem χ {P:Prop} (h:P:=by first | (simp only [];omega) | omega):P:=h
theorem ψ {P:Prop} (h:P:=by simp;omega):P:=h
theorem ω {P:Prop} (h:P:=by with_reducible repeat (first | exact Qd _ | refine Qe ?_)):P:=h
theorem Γ {P:Prop} (h:P:=by unfold maxLen;omega):P:=h
theorem Δ {P:Prop} (h:P:=by with_reducible exact Qc (Qd _)):P:=h
theorem Θ {P:Prop} (h:P:=by rw [hW0];exact Qc (Qd _)):P:=h
theorem Ξ {P:Prop} (h:P:=by with_reducible repeat (first | exact Qd _ | refine Qe ?_ | refine Qc ?_)):P:=h
theorem Φ {P:Prop} (h:P:=by rw [hW1];simp [go_sem]):P:=h
theorem Ψ {P:Prop} (h:P:=by with_reducible exact Qc β1):P:=h
theorem Ω {P:Prop} (h:P:=by unfold Kd;dsimp only;omega):P:=h
theorem γ0 {P:Prop} (h:P:=by with_reducible assumption):P:=h
theorem γ1 {P:Prop} (h:P:=by first | omega | (simp;omega) | (simp;done)):P:=h
theorem γ2 {P:Prop} (h:P:=by rfl):P:=h
theorem γ3 {P:Prop} (h:P:=by simp [sideB];omega):P:=h
theorem γ4 {P:Prop} (h:P:=by go_split_ands;with_reducible first | assumption | exact Steps.kept (by assumption) (Qe (Qd _)) | exact Steps.kept (by assumption) (by assumption)):P:=h
theorem γ5 {P:Prop} (h:P:=by rw [Ju];omega):P:=h
theorem γ6 {P:Prop} (h:P:=by first | rfl | simp [*] | (congr 2;rw [Bool.eq_iff_iff];simp [*])):P:=h
theorem γ7 {P:Prop} (h:P:=by first | rfl | go_num | (congr 1 <;> omega)):P:=h
theorem γ8 {P:Prop} (h:P:=by first | rfl | go_num):P:=h
theorem γ9 {P:Prop} (h:P:=by with_reducible exact Qc β3):P:=h
theorem δ0 {P:Prop} (h:P:=by with_reducible exact Qd _):P:=h
theorem δ1 {P:Prop} (h:P:=by rw [List.length_append];omega):P:=h
theorem δ2 {P:Prop} (h:P:=by simp [Value.ownBlock]):P:=h
theorem δ3 {P:Prop} (h:P:=by simp [Mp,go_sem]):P:=h
theorem δ4 {P:Prop} (h:P:=by rw [hW0];exact Qc β2):P:=h
theorem δ5 {P:Prop} (h:P:=by with_reducible (first | exact Qe β1 | exact Qc (Qe (Qd _)))):P:=h
def inB (n a b:Int):Bool:=decide (a≤n∧n≤b)
def evenB (n:Int):Bool:=decide (-1000000≤n∧n≤1000000∧n % 2=0)
def unitB (n:Int):Bool:=decide (n=1∨n=-1)
def triB (x y k:Int):Bool:=decide (0≤k∧k≤3∧-1000000≤x∧x≤1000000∧-1000000≤y∧y≤1000000)
def lineB (way c:Int):Bool:=decide (0≤way∧way≤3∧-1000000≤c∧c≤1000000∧c % 2=0)
theorem Qs {a b:Bool} (h:a=b):Ending.returned (.bool a)=.returned (.bool b):=by rw [h]
theorem Ja {k:IntKind} {a:Int} (h:a=b):Ending.returned (.int k a)=.returned (.int k b):=by rw [h]
theorem tmod2 (c:Int):c.tmod 2=0↔c % 2=0:=by rw [← Int.dvd_iff_tmod_eq_zero,Int.dvd_iff_emod_eq_zero]
theorem Kv (n:Int) (w:World) :
  Cl 51 #[I n] w fun e w'=>e=.returned (.bool (inB n 0 3))∧w'=w:=by
 go_enter Tryz.func51,Tryz.ntmps51;go_wp2
 all_goals
  go_ret;exact ⟨Qs (by rw [Bool.eq_iff_iff];simp [inB];omega),rfl⟩
theorem near_any (n:Int) (w:World) :
  Cl 52 #[I n] w fun e w'=>e=.returned (.bool (inB n (-1000000) 1000000))∧w'=w:=by
 go_enter Tryz.func52,Tryz.ntmps52;go_wp2
 all_goals
  go_ret;exact ⟨Qs (by rw [Bool.eq_iff_iff];simp [inB];omega),rfl⟩
theorem unit_any (n:Int) (w:World) :
  Cl 49 #[I n] w fun e w'=>e=.returned (.bool (unitB n))∧w'=w:=by
 go_enter Tryz.func49,Tryz.ntmps49;go_wp2
 all_goals
  go_ret;exact ⟨Qs (by rw [Bool.eq_iff_iff];simp_all [unitB]),rfl⟩
theorem Vg (n:Int) (w:World) :
  Cl 50 #[I n] w fun e w'=>e=.returned (.bool (evenB n))∧w'=w:=by
 by_cases h:inB n (-1000000) 1000000=true
 ·have hb : -1000000≤n∧n≤1000000:=by simpa [inB] using h
  obtain ⟨b1,b2⟩:=hb;go_enter Tryz.func50,Tryz.ntmps50;go_wp2_with (go_at_call 52;refine (near_any _ _).mono ?_;rintro e w' ⟨rfl,rfl⟩)
  go_ret;exact ⟨Qs (by rw [Bool.eq_iff_iff];simp [evenB,tmod2];omega),rfl⟩
 ·go_enter Tryz.func50,Tryz.ntmps50;go_wp2_with (go_at_call 52;refine (near_any _ _).mono ?_;rintro e w' ⟨rfl,rfl⟩)
  go_ret;exact ⟨Qs (by rw [Bool.eq_iff_iff];simp [evenB,inB] at h ⊢;omega),rfl⟩
theorem Jk (x y k:Int) (w:World) :
  Cl 23 #[.agg #[I x,I y,I k]] w fun e w'=>e=.returned (.bool (triB x y k))∧∃ o,w'=w.alloc o:=by
 go_enter Tryz.func23,Tryz.ntmps23;go_wp2_with (first | (go_at_call 51;refine (Kv _ _).mono ?_;rintro e w' ⟨rfl,rfl⟩) | (go_at_call 52;refine (near_any _ _).mono ?_;rintro e w' ⟨rfl,rfl⟩))
 all_goals
  go_ret;exact ⟨Qs (by rw [Bool.eq_iff_iff];simp_all [inB,triB];try omega),_,rfl⟩
theorem Ym (y c:Int) (w:World) :
  Cl 27 #[.agg #[I y,I c]] w fun e w'=>e=.returned (.bool (lineB y c))∧∃ o,w'=w.alloc o:=by
 go_enter Tryz.func27,Tryz.ntmps27;go_wp2_with (first | (go_at_call 51;refine (Kv _ _).mono ?_;rintro e w' ⟨rfl,rfl⟩) | (go_at_call 50;refine (Vg _ _).mono ?_;rintro e w' ⟨rfl,rfl⟩))
 all_goals
  go_ret;exact ⟨Qs (by rw [Bool.eq_iff_iff];simp_all [inB,lineB,evenB];try omega),_,rfl⟩
attribute [local go_sem ↓] Go.wp_at_zero Go.wp_at_succ
theorem Jv (k q:Int) (w:World) (h0:0≤k) (h1:k≤3) (h2:0≤q) (h3:q≤3) :
  Cl 59 #[I k,I q] w fun e w'=>e=.returned (I ((k+q) % 4))∧w'=w:=by
 go_enter Tryz.func59,Tryz.ntmps59;go_wp2;go_ret;exact ⟨rfl,rfl⟩
theorem Yh (x y k:Int) (w:World) (h:triB x y k=true) :
  Cl 54 #[.agg #[I x,I y,I k]] w fun e w'=>e=.returned (.agg #[I (2*x+1),I (2*y+1)])∧∃ o1 o2,w'=(w.alloc o1).alloc o2:=by
 have hb:0≤k∧k≤3∧-1000000≤x∧x≤1000000∧-1000000≤y∧y≤1000000:=by simpa [triB] using h
 obtain ⟨_,_,b1,b2,b3,b4⟩:=hb;clear h;go_enter Tryz.func54,Tryz.ntmps54;go_wp2;exact bodyPost_ret (v:=.agg #[I (2*x+1),I (2*y+1)]) (by simp [results,Tryz.results54,go_sem]) rfl ⟨rfl,_,_,rfl⟩
theorem Xg (a b c d:Int) (w:World) (h1 : -10000000≤a) (h2:a≤10000000) (h3 : -10000000≤b) (h4:b≤10000000) (h5 : -10000000≤c) (h6:c≤10000000) (f : -10000000≤d) (g:d≤10000000) :
  Cl 58 #[.agg #[I a,I b],.agg #[I c,I d]] w fun e w'=>e=.returned (.agg #[I (a+c),I (b+d)])∧∃ o1 o2 o3,w'=((w.alloc o1).alloc o2).alloc o3:=by
 go_enter Tryz.func58,Tryz.ntmps58;go_wp2;exact bodyPost_ret (v:=.agg #[I (a+c),I (b+d)]) (by simp [results,Tryz.results58,go_sem]) rfl ⟨rfl,_,_,_,rfl⟩
def alongOf (y a b:Int):Int:=if y=0 then a else if y=1 then b else if y=2 then a+b else a - b
def Steps (w:World):Prop :=
 At w 0 0 (I (-1))∧At w 0 1 (I (-1))∧At w 0 2 (I 1)∧At w 0 3 (I (-1)) ∧
 At w 0 4 (I 1)∧At w 0 5 (I 1)∧At w 0 6 (I (-1))∧At w 0 7 (I 1)
theorem Je (h:w.cell? a=some v):a.block<w.heap.size:=bk h
theorem Qr {b:World} (hb:Bl w b) (h:w.cell? a=some v):b.cell? a=some v:=(hb.cell (Je h)).trans h
theorem Qf {c:World} {b:Bool} (hb:Bl w c) (d:w.cell? a=some v) (h:w.frozen? a=b):c.frozen? a=b:=(hb.frozen (Je d)).trans h
theorem Steps.kept {a:World} (hs:Steps w) (hb:Bl w a):Steps a:=by
 obtain ⟨b,c,d,e,f,g,h,i⟩:=hs;exact ⟨Qr hb b,Qr hb c,Qr hb d,Qr hb e,Qr hb f,Qr hb g,Qr hb h,Qr hb i⟩
def stX (k:Int):Int:=if k=1∨k=2 then 1 else -1
def stY (k:Int):Int:=if k=2∨k=3 then 1 else -1
def c1x (x k:Int):Int:=2*x+1+stX k
def c1y (y k:Int):Int:=2*y+1+stY k
def c2x (x k:Int):Int:=2*x+1+stX ((k+1) % 4)
def c2y (y k:Int):Int:=2*y+1+stY ((k+1) % 4)
theorem stX_bd (k:Int) : -1≤stX k∧stX k≤1:=by unfold stX;split <;> omega
theorem stY_bd (k:Int) : -1≤stY k∧stY k≤1:=by unfold stY;split <;> omega
theorem corners_0 (x y:Int) (w:World) (h:triB x y 0=true) (hs:Steps w) :
  Rt 29 #[.agg #[I x,I y,I 0]] w (.agg #[I (2*x+1),I (2*y+1),I (2*x+1 + -1),I (2*y+1 + -1),I (2*x+1+1),I (2*y+1 + -1)]):=by
 have hb : -1000000≤x∧x≤1000000∧-1000000≤y∧y≤1000000:=by simpa [triB] using h
 obtain ⟨b1,b2,b3,b4⟩:=hb;obtain ⟨b,i,j,k,l,m,n,o⟩:=hs;have d:0<w.heap.size:=Je b;have a:¬ w.heap.size=0:=γ;go_enter Tryz.func29,Tryz.ntmps29;go_wp2_with (go_at_call 54;refine (Yh _ _ _ _ h).mono ?_;rintro e w1 ⟨rfl,o1,o2,rfl⟩)
 go_region_held3 (fun w'=>At w' (w.heap.size+1+1+1+1) 0 (I (2*x+1))∧At w' (w.heap.size+1+1+1+1) 1 (I (2*y+1))∧At w' w.heap.size 2 (I 0)
   ∧ At w' 0 0 (I (-1))∧At w' 0 1 (I (-1))∧At w' 0 2 (I 1)∧At w' 0 3 (I (-1)))
  (simp [go_sem,Ca, *])
  (first | (go_at_call 58;refine (Xg _ _ _ _ _ γ γ γ γ γ γ γ γ).mono ?_;rintro e c ⟨rfl,o3,f,g,rfl⟩) | (go_at_call 59;refine (Jv _ _ _ γ γ γ γ).mono ?_;rintro e c ⟨rfl,rfl⟩))
 go_wp2;refine bodyPost_ret (v:=.agg #[I (2*x+1),I (2*y+1),I (2*x+1 + -1),I (2*y+1 + -1),I (2*x+1+1),I (2*y+1 + -1)]) ?_ rfl ⟨rfl, ?_⟩
 ·simp [results,Tryz.results29,go_sem,Ca]
 ·repeat (first | exact Below.refl _ _ | refine Below.alloc ?_ (by simp;try omega) _ | refine Below.drew ?_)
theorem corners_1 (x y:Int) (w:World) (h:triB x y 1=true) (hs:Steps w) :
  Rt 29 #[.agg #[I x,I y,I 1]] w (.agg #[I (2*x+1),I (2*y+1),I (2*x+1+1),I (2*y+1 + -1),I (2*x+1+1),I (2*y+1+1)]):=by
 have hb : -1000000≤x∧x≤1000000∧-1000000≤y∧y≤1000000:=by simpa [triB] using h
 obtain ⟨b1,b2,b3,b4⟩:=hb;obtain ⟨b,i,j,k,l,m,n,o⟩:=hs;have d:0<w.heap.size:=Je b;have a:¬ w.heap.size=0:=γ;go_enter Tryz.func29,Tryz.ntmps29;go_wp2_with (go_at_call 54;refine (Yh _ _ _ _ h).mono ?_;rintro e w1 ⟨rfl,o1,o2,rfl⟩)
 go_region_held3 (fun w'=>At w' (w.heap.size+1+1+1+1) 0 (I (2*x+1))∧At w' (w.heap.size+1+1+1+1) 1 (I (2*y+1))∧At w' w.heap.size 2 (I 1)
   ∧ At w' 0 2 (I 1)∧At w' 0 3 (I (-1))∧At w' 0 4 (I 1)∧At w' 0 5 (I 1))
  (simp [go_sem,Ca, *])
  (first | (go_at_call 58;refine (Xg _ _ _ _ _ γ γ γ γ γ γ γ γ).mono ?_;rintro e c ⟨rfl,o3,f,g,rfl⟩) | (go_at_call 59;refine (Jv _ _ _ γ γ γ γ).mono ?_;rintro e c ⟨rfl,rfl⟩))
 go_wp2;refine bodyPost_ret (v:=.agg #[I (2*x+1),I (2*y+1),I (2*x+1+1),I (2*y+1 + -1),I (2*x+1+1),I (2*y+1+1)]) ?_ rfl ⟨rfl, ?_⟩
 ·simp [results,Tryz.results29,go_sem,Ca]
 ·repeat (first | exact Below.refl _ _ | refine Below.alloc ?_ (by simp;try omega) _ | refine Below.drew ?_)
theorem corners_2 (x y:Int) (w:World) (h:triB x y 2=true) (hs:Steps w) :
  Rt 29 #[.agg #[I x,I y,I 2]] w (.agg #[I (2*x+1),I (2*y+1),I (2*x+1+1),I (2*y+1+1),I (2*x+1 + -1),I (2*y+1+1)]):=by
 have hb : -1000000≤x∧x≤1000000∧-1000000≤y∧y≤1000000:=by simpa [triB] using h
 obtain ⟨b1,b2,b3,b4⟩:=hb;obtain ⟨b,i,j,k,l,m,n,o⟩:=hs;have d:0<w.heap.size:=Je b;have a:¬ w.heap.size=0:=γ;go_enter Tryz.func29,Tryz.ntmps29;go_wp2_with (go_at_call 54;refine (Yh _ _ _ _ h).mono ?_;rintro e w1 ⟨rfl,o1,o2,rfl⟩)
 go_region_held3 (fun w'=>At w' (w.heap.size+1+1+1+1) 0 (I (2*x+1))∧At w' (w.heap.size+1+1+1+1) 1 (I (2*y+1))∧At w' w.heap.size 2 (I 2)
   ∧ At w' 0 4 (I 1)∧At w' 0 5 (I 1)∧At w' 0 6 (I (-1))∧At w' 0 7 (I 1))
  (simp [go_sem,Ca, *])
  (first | (go_at_call 58;refine (Xg _ _ _ _ _ γ γ γ γ γ γ γ γ).mono ?_;rintro e c ⟨rfl,o3,f,g,rfl⟩) | (go_at_call 59;refine (Jv _ _ _ γ γ γ γ).mono ?_;rintro e c ⟨rfl,rfl⟩))
 go_wp2;refine bodyPost_ret (v:=.agg #[I (2*x+1),I (2*y+1),I (2*x+1+1),I (2*y+1+1),I (2*x+1 + -1),I (2*y+1+1)]) ?_ rfl ⟨rfl, ?_⟩
 ·simp [results,Tryz.results29,go_sem,Ca]
 ·repeat (first | exact Below.refl _ _ | refine Below.alloc ?_ (by simp;try omega) _ | refine Below.drew ?_)
theorem corners_3 (x y:Int) (w:World) (h:triB x y 3=true) (hs:Steps w) :
  Rt 29 #[.agg #[I x,I y,I 3]] w (.agg #[I (2*x+1),I (2*y+1),I (2*x+1 + -1),I (2*y+1+1),I (2*x+1 + -1),I (2*y+1 + -1)]):=by
 have hb : -1000000≤x∧x≤1000000∧-1000000≤y∧y≤1000000:=by simpa [triB] using h
 obtain ⟨b1,b2,b3,b4⟩:=hb;obtain ⟨b,i,j,k,l,m,n,o⟩:=hs;have d:0<w.heap.size:=Je b;have a:¬ w.heap.size=0:=γ;go_enter Tryz.func29,Tryz.ntmps29;go_wp2_with (go_at_call 54;refine (Yh _ _ _ _ h).mono ?_;rintro e w1 ⟨rfl,o1,o2,rfl⟩)
 go_region_held3 (fun w'=>At w' (w.heap.size+1+1+1+1) 0 (I (2*x+1))∧At w' (w.heap.size+1+1+1+1) 1 (I (2*y+1))∧At w' w.heap.size 2 (I 3)
   ∧ At w' 0 6 (I (-1))∧At w' 0 7 (I 1)∧At w' 0 0 (I (-1))∧At w' 0 1 (I (-1)))
  (simp [go_sem,Ca, *])
  (first | (go_at_call 58;refine (Xg _ _ _ _ _ γ γ γ γ γ γ γ γ).mono ?_;rintro e c ⟨rfl,o3,f,g,rfl⟩) | (go_at_call 59;refine (Jv _ _ _ γ γ γ γ).mono ?_;rintro e c ⟨rfl,rfl⟩))
 go_wp2;refine bodyPost_ret (v:=.agg #[I (2*x+1),I (2*y+1),I (2*x+1 + -1),I (2*y+1+1),I (2*x+1 + -1),I (2*y+1 + -1)]) ?_ rfl ⟨rfl, ?_⟩
 ·simp [results,Tryz.results29,go_sem,Ca]
 ·repeat (first | exact Below.refl _ _ | refine Below.alloc ?_ (by simp;try omega) _ | refine Below.drew ?_)
theorem Yn (x y k:Int) (w:World) (h:triB x y k=true) (hs:Steps w) :
  Rt 29 #[.agg #[I x,I y,I k]] w (.agg #[I (2*x+1),I (2*y+1),I (c1x x k),I (c1y y k),I (c2x x k),I (c2y y k)]):=by
 have a:k=0∨k=1∨k=2∨k=3:=by have:=h;simp [triB] at this;omega
 rcases a with rfl | rfl | rfl | rfl
 ·exact corners_0 x y w h hs
 ·exact corners_1 x y w h hs
 ·exact corners_2 x y w h hs
 ·exact corners_3 x y w h hs
theorem Qd (w:World):Bl w w:=Below.refl _ _
theorem Qc {v:World} (h:Bl w v):Bl w (v.alloc o):=h.alloc h.size _
theorem Qe {v:World} (h:Bl w v):Bl w v.drew:=h.drew
theorem Uj {v:World} {n:Nat} (h:Bl w v):Bl w (v.drewN n):=⟨h.os,h.tape,h.output,h.size,h.block⟩
theorem Qb {v u:World} (h:Bl w v) (k:Bl v u):Bl w u:=h.trans (k.mono h.size)
theorem Qk {v:World} {p:Addr} {u:Value} (h:Bl w v) (hp:w.heap.size≤p.block):Bl w (v.setCell p u):=h.setCell hp _
def Mp (w:World) (g:Nat) (a b c d e f:Int):Prop :=
 At w g 0 (I a)∧At w g 1 (I b)∧At w g 2 (I c)∧At w g 3 (I d)∧At w g 4 (I e)∧At w g 5 (I f)
def Pt (w:World) (g:Nat) (x y:Int):Prop:=At w g 0 (I x)∧At w g 1 (I y)
def Tr (w:World) (g:Nat) (x y k:Int):Prop:=At w g 0 (I x)∧At w g 1 (I y)∧At w g 2 (I k)
def Fr (w:World) (g:Nat):Prop :=
 Fn w g 0∧Fn w g 1∧Fn w g 2∧Fn w g 3∧Fn w g 4∧Fn w g 5
theorem Qa {b:World} (hb:Bl w b) (h:w.cell? a=some v):b.cell? a=some v:=(hb.cell (bk h)).trans h
theorem Mp.kept {i:World} {a:Int} (h:Mp w g a b c d e f) (hb:Bl w i):Mp i g a b c d e f:=by
 obtain ⟨h0,h1,h2,h3,h4,h5⟩:=h;exact ⟨Qa hb h0,Qa hb h1,Qa hb h2,Qa hb h3,Qa hb h4,Qa hb h5⟩
theorem Tr.kept {d:World} {a:Int} (h:Tr w g a b c) (hb:Bl w d):Tr d g a b c:=⟨Qa hb h.1,Qa hb h.2.1,Qa hb h.2.2⟩
theorem Fr.kept {a:World} (h:Fr w g) (hg:g<w.heap.size) (hb:Bl w a):Fr a g:=by
 obtain ⟨h0,h1,h2,h3,h4,h5⟩:=h;exact ⟨(hb.frozen (p:=⟨g,0,none⟩) hg).trans h0,(hb.frozen (p:=⟨g,1,none⟩) hg).trans h1,(hb.frozen (p:=⟨g,2,none⟩) hg).trans h2,(hb.frozen (p:=⟨g,3,none⟩) hg).trans h3,(hb.frozen (p:=⟨g,4,none⟩) hg).trans h4,(hb.frozen (p:=⟨g,5,none⟩) hg).trans h5⟩
theorem Mp.lt {a:Int} (h:Mp w g a b c d e f):g<w.heap.size:=World.block_lt_of_cell? (w:=w) (a:=⟨g,0,none⟩) h.1
theorem Tr.lt {a:Int} (h:Tr w g a b c):g<w.heap.size:=World.block_lt_of_cell? (w:=w) (a:=⟨g,0,none⟩) h.1
theorem Ql (h:w.cell? a=some v):(w.alloc o).cell? a=some v:=(World.cell?_alloc_lt _ _ _ (bk h)).trans h
theorem Qi (h:w.cell? a=some v):w.drew.cell? a=some v:=h
attribute [local go_sem ↓] Go.wp_at_zero Go.wp_at_succ
def dot (p q x y:Int):Int:=p*x+q*y
theorem Yq {u x M:Int} (h1 : -1≤u) (h2:u≤1) (h3 : -M≤x) (h4:x≤M) : -M≤u*x∧u*x≤M:=by
 have a:u=-1∨u=0∨u=1:=γ;rcases a with rfl | rfl | rfl <;> omega
theorem dot_bd {p q x y M:Int} (h1 : -1≤p) (h2:p≤1) (h3 : -1≤q) (h4:q≤1) (h5 : -M≤x) (h6:x≤M) (c : -M≤y) (d:y≤M) : -(2*M)≤dot p q x y∧dot p q x y≤2*M:=by
 have a:=Yq h1 h2 h5 h6;have b:=Yq h3 h4 c d;unfold dot;omega
def Sm (a b c d:Int):Prop:=(-1≤a∧a≤1)∧(-1≤b∧b≤1)∧(-1≤c∧c≤1)∧(-1≤d∧d≤1)
theorem turn_any (a b c d e f x y:Int) (w:World) (hs:Sm a b c d) (h1 : -4000000≤x) (h2:x≤4000000) (h3 : -4000000≤y) (h4:y≤4000000) :
  Cl 56 #[.agg #[I a,I b,I c,I d,I e,I f],.agg #[I x,I y]] w fun r w'=>r=.returned (.agg #[I (dot a b x y),I (dot c d x y)])∧∃ o1 o2 o3,w'=((w.alloc o1).alloc o2).alloc o3:=by
 obtain ⟨⟨a1,g⟩,⟨b1,b2⟩,⟨c1,c2⟩,⟨d1,d2⟩⟩:=hs;obtain ⟨h,i⟩:=Yq a1 g h1 h2;obtain ⟨j,k⟩:=Yq b1 b2 h3 h4;obtain ⟨l,m⟩:=Yq c1 c2 h1 h2;obtain ⟨n,o⟩:=Yq d1 d2 h3 h4;go_enter Tryz.func56,Tryz.ntmps56;go_wp2;exact bodyPost_ret (v:=.agg #[I (dot a b x y),I (dot c d x y)]) (by simp [results,Tryz.results56,go_sem,dot]) rfl ⟨rfl,_,_,_,rfl⟩
theorem image_any (a b c d e f x y:Int) (w:World) (hs:Sm a b c d) (p : -1000000≤e∧e≤1000000) (q : -1000000≤f∧f≤1000000) (h1 : -4000000≤x) (h2:x≤4000000) (h3 : -4000000≤y) (h4:y≤4000000) :
  Cl 53 #[.agg #[I a,I b,I c,I d,I e,I f],.agg #[I x,I y]] w fun r w'=>r=.returned (.agg #[I (dot a b x y+e),I (dot c d x y+f)])∧∃ o1 o2 o3 g h i j k o9,w'=(((((((((w.alloc o1).alloc o2).alloc o3).alloc g).alloc h).alloc i).alloc j).alloc k).alloc o9).drew:=by
 have m:=dot_bd hs.1.1 hs.1.2 hs.2.1.1 hs.2.1.2 h1 h2 h3 h4;have n:=dot_bd hs.2.2.1.1 hs.2.2.1.2 hs.2.2.2.1 hs.2.2.2.2 h1 h2 h3 h4;have l:=Hd hs;clear hs;go_enter Tryz.func53,Tryz.ntmps53;go_wp2
 go_region_held3 (fun w'=>(At w' w.heap.size 0 (I a)∧At w' w.heap.size 1 (I b)∧At w' w.heap.size 2 (I c)∧At w' w.heap.size 3 (I d)∧At w' w.heap.size 4 (I e)∧At w' w.heap.size 5 (I f))
   ∧ At w' (w.heap.size+1) 0 (I x)∧At w' (w.heap.size+1) 1 (I y))
  (simp [go_sem,Ca])
  (first | (go_at_call 56;refine (turn_any _ _ _ _ _ _ _ _ _ l.out γ γ γ γ).mono ?_;rintro e o ⟨rfl,o3,g,h,rfl⟩) | (go_at_call 58;refine (Xg _ _ _ _ _ γ γ γ γ γ γ γ γ).mono ?_;rintro e o ⟨rfl,i,j,k,rfl⟩))
 go_wp2;exact bodyPost_ret (v:=.agg #[I (dot a b x y+e),I (dot c d x y+f)]) (by simp [results,Tryz.results53,go_sem,Ca]) rfl ⟨rfl,_,_,_,_,_,_,_,_,_,rfl⟩
attribute [local go_sem ↓] Go.wp_at_zero Go.wp_at_succ
def outX (k:Int):Int:=if k=1 then 1 else if k=3 then -1 else 0
def outY (k:Int):Int:=if k=0 then -1 else if k=2 then 1 else 0
theorem outX_bd (k:Int) : -1≤outX k∧outX k≤1:=by unfold outX;split <;> (try split) <;> omega
theorem outY_bd (k:Int) : -1≤outY k∧outY k≤1:=by unfold outY;split <;> (try split) <;> omega
def mapB (a b c d e f:Int):Bool:=((unitB a && decide (b=0) && decide (c=0) && unitB d) || (decide (a=0) && unitB b && unitB c && decide (d=0))) && evenB e && evenB f
theorem Jy (a b c d e f:Int) (w:World) :
  Cl 22 #[.agg #[I a,I b,I c,I d,I e,I f]] w fun r w'=>r=.returned (.bool (mapB a b c d e f))∧∃ o,w'=w.alloc o:=by
 go_enter Tryz.func22,Tryz.ntmps22;go_wp2_with (first | (go_at_call 49;refine (unit_any _ _).mono ?_;rintro e w' ⟨rfl,rfl⟩) | (go_at_call 50;refine (Vg _ _).mono ?_;rintro e w' ⟨rfl,rfl⟩))
 all_goals
  go_ret;exact ⟨Qs (by simp_all [mapB]),_,rfl⟩
theorem line_bd {v:Int} (h:lineB v c=true):0≤v∧v≤3∧-1000000≤c∧c≤1000000∧c % 2=0:=by simpa [lineB] using h
def mA (v:Int):Int:=if v=0 then -1 else if v=1 then 1 else 0
def mB (v:Int):Int:=if v=0∨v=1 then 0 else if v=2 then -1 else 1
def mD (v:Int):Int:=if v=0 then 1 else if v=1 then -1 else 0
def mE (v c:Int):Int:=if v=0 then 2*c else if v=1 then 0 else c
def mF (v c:Int):Int:=if v=0 then 0 else if v=1 then 2*c else if v=2 then c else -c
theorem ret_agg6 {a g h i j k l:Int} (h1:a=g) (h2:b=h) (h3:c=i) (h4:d=j) (h5:e=k) (h6:f=l) :
  Ending.returned (.agg #[I a,I b,I c,I d,I e,I f])=.returned (.agg #[I g,I h,I i,I j,I k,I l]):=by subst h1 h2 h3 h4 h5 h6;rfl
theorem mirror_any (v c:Int) (w:World) (h:lineB v c=true) :
  Cl 63 #[.agg #[I v,I c]] w fun r w'=>r=.returned (.agg #[I (mA v),I (mB v),I (mB v),I (mD v),I (mE v c),I (mF v c)])∧∃ o1 o2,w'=(w.alloc o1).alloc o2:=by
 obtain ⟨h0,h3,b1,b2,_⟩:=line_bd h;have a:v=0∨v=1∨v=2∨v=3:=γ;clear h;rcases a with rfl | rfl | rfl | rfl
 all_goals
  go_enter Tryz.func63,Tryz.ntmps63;go_wp2;refine bodyPost_ret (v:=.agg #[_,_,_,_,_,_]) (by simp [results,Tryz.results63,go_sem];exact ⟨rfl,rfl,rfl,rfl,rfl,rfl⟩) rfl ⟨?_,_,_,rfl⟩;exact ret_agg6 (by simp [mA]) (by simp [mB]) (by simp [mB]) (by simp [mD]) (by simp [mE]) (by simp [mF])
theorem sized_yes (a b c d e f:Int) (w:World) (h:mapB a b c d e f=true) :
  Cl 62 #[.agg #[I a,I b,I c,I d,I e,I f]] w fun r w'=>r=.returned (.tuple #[.agg #[I a,I b,I c,I d,I e,I f],I 0])∧∃ o1 o2 o3,w'=((w.alloc o1).alloc o2).alloc o3:=by
 go_enter Tryz.func62,Tryz.ntmps62;go_wp2_with (go_at_call 22;refine (Jy _ _ _ _ _ _ _).mono ?_;rintro e w' ⟨rfl,o1,rfl⟩)
 exact bodyPost_ret (v:=.tuple #[.agg #[I a,I b,I c,I d,I e,I f],I 0]) (by simp [results,Tryz.results62,go_sem]) rfl ⟨rfl,_,_,_,rfl⟩
theorem sized_no (a b c d e f:Int) (w:World) (h:mapB a b c d e f=false) :
  Cl 62 #[.agg #[I a,I b,I c,I d,I e,I f]] w fun r w'=>r=.returned (.tuple #[.agg #[I 0,I 0,I 0,I 0,I 0,I 0],I 2])∧∃ o1 o2 o3,w'=((w.alloc o1).alloc o2).alloc o3:=by
 go_enter Tryz.func62,Tryz.ntmps62;go_wp2_with (go_at_call 22;refine (Jy _ _ _ _ _ _ _).mono ?_;rintro e w' ⟨rfl,o1,rfl⟩)
 exact bodyPost_ret (v:=.tuple #[.agg #[I 0,I 0,I 0,I 0,I 0,I 0],I 2]) (by simp [results,Tryz.results62,go_sem]) rfl ⟨rfl,_,_,_,rfl⟩
theorem Qy (fn:Go.Fn) (first a:Array Value) (w:World):(Instr.makeFunc fn first a).run Tryz.prog w=.ok (.func fn first a) w:=rfl
theorem mirror1_yes (v c:Int) (p:Nat) (w:World) (h:lineB v c=true) (f:mapB (mA v) (mB v) (mB v) (mD v) (mE v c) (mF v c)=true) (a:At w p 0 (I v)) (g:At w p 1 (I c)) :
  Cl 61 #[.pointer (Az p)] w fun r w'=>r=.returned (.tuple #[.agg #[I (mA v),I (mB v),I (mB v),I (mD v),I (mE v c),I (mF v c)],I 0])∧∃ o1 o2 o3 b d o6,w'=(((((w.alloc o1).alloc o2).alloc o3).alloc b).alloc d).alloc o6:=by
 have i:=bk a;go_enter Tryz.func61,Tryz.ntmps61;go_wp2_with (first | (go_at_call 63;refine (mirror_any _ _ _ h).mono ?_;rintro e w' ⟨rfl,o1,o2,rfl⟩) | (go_at_call 62;refine (sized_yes _ _ _ _ _ _ _ f).mono ?_;rintro e w' ⟨rfl,o3,b,d,rfl⟩))
 exact bodyPost_ret (v:=.tuple #[.agg #[I (mA v),I (mB v),I (mB v),I (mD v),I (mE v c),I (mF v c)],I 0]) (by simp [results,Tryz.results61,go_sem,Ca]) rfl ⟨rfl,_,_,_,_,_,_,rfl⟩
theorem Ko (v c:Int) (p:Nat) (w:World) (h:lineB v c=true) (g:mapB (mA v) (mB v) (mB v) (mD v) (mE v c) (mF v c)=true) (a:At w p 0 (I v)) (i:At w p 1 (I c)) :
  Cl 60 #[.bool true,.func (.func 61) #[] #[.pointer (Az p)]] w fun r w'=>r=.returned (.tuple #[.agg #[I (mA v),I (mB v),I (mB v),I (mD v),I (mE v c),I (mF v c)],I 0])∧∃ o1 o2 o3 b d f o7 o8 o9,w'=((((((((w.alloc o1).alloc o2).alloc o3).alloc b).alloc d).alloc f).alloc o7).alloc o8).alloc o9:=by
 have j:=bk a;go_enter Tryz.func60,Tryz.ntmps60;go_wp2_with (go_at_call 61;refine (mirror1_yes v c p _ h g (by simp [go_sem,Ca, *]) (by simp [go_sem,Ca, *])).mono ?_;rintro e w' ⟨rfl,o1,o2,o3,b,d,f,rfl⟩)
 exact bodyPost_ret (v:=.tuple #[.agg #[I (mA v),I (mB v),I (mB v),I (mD v),I (mE v c),I (mF v c)],I 0]) (by simp [results,Tryz.results60,go_sem,Ca]) rfl ⟨rfl,_,_,_,_,_,_,_,_,_,rfl⟩
theorem Zf (v c:Int) (w:World) (h:lineB v c=true) (a:mapB (mA v) (mB v) (mB v) (mD v) (mE v c) (mF v c)=true) :
  Rt 31 #[.agg #[I v,I c]] w (.tuple #[.agg #[I (mA v),I (mB v),I (mB v),I (mD v),I (mE v c),I (mF v c)],I 0]):=by
 have b:=Qy;go_enter Tryz.func31,Tryz.ntmps31;go_wp2_with (first | (go_at_call 27;refine (Ym _ _ _).mono ?_;rintro e w1 ⟨rfl,o0,rfl⟩) | (go_at_call 60;refine (Ko v c _ _ h a (by simp [go_sem, *]) (by simp [go_sem, *])).mono ?_;rintro e w' ⟨rfl,o1,o2,o3,d,f,g,i,j,k,rfl⟩))
 refine bodyPost_ret (v:=.tuple #[.agg #[I (mA v),I (mB v),I (mB v),I (mD v),I (mE v c),I (mF v c)],I 0]) (by simp [results,Tryz.results31,go_sem,Ca]) rfl ⟨rfl, ?_⟩;repeat (first | exact Below.refl _ _ | refine Below.alloc ?_ γ1 _)
attribute [local go_sem ↓] Go.wp_at_zero Go.wp_at_succ
def Ef (e f:Int):Prop:=(-1000000≤e∧e≤1000000)∧(-1000000≤f∧f≤1000000)
theorem after_any (a b c d e f A B C D E F:Int) (w:World) (hs:Sm a b c d) (j:Sm A B C D) (k:Ef e f) (i:Ef E F) :
  Cl 95 #[.agg #[I a,I b,I c,I d,I e,I f],.agg #[I A,I B,I C,I D,I E,I F]] w fun r w' =>
   r=.returned (.agg #[I (dot A B a c),I (dot A B b d),I (dot C D a c),I (dot C D b d),I (dot A B e f+E),I (dot C D e f+F)])∧Bl w w':=by
 obtain ⟨⟨a1,p⟩,⟨b1,b2⟩,⟨c1,c2⟩,⟨d1,d2⟩⟩:=hs;obtain ⟨⟨e1,e2⟩,⟨f1,f2⟩⟩:=k;have h:=Hd j;have g:=Hd i;clear j i;go_enter Tryz.func95,Tryz.ntmps95;go_wp2_with (first | (go_at_call 56;refine (turn_any _ _ _ _ _ _ _ _ _ h.out γ γ γ γ).mono ?_;rintro e o ⟨rfl,o1,o2,o3,rfl⟩) | (go_at_call 53;refine (image_any _ _ _ _ _ _ _ _ _ h.out g.out.1 g.out.2 γ γ γ γ).mono ?_;rintro e o ⟨rfl,q,s,t,u,x,y,l,m,n,rfl⟩))
 refine bodyPost_ret (v:=.agg #[I (dot A B a c),I (dot A B b d),I (dot C D a c),I (dot C D b d),I (dot A B e f+E),I (dot C D e f+F)]) (by simp [results,Tryz.results95,go_sem,Ca]) rfl ⟨rfl, ?_⟩;with_reducible repeat (first | refine Qc ?_ | refine Qe ?_ | exact Qd _)
structure Kin (W:World) where
 w:World
 h:Bl W w
theorem Kin.cells (W:World):∀ (n:Kin W) (b o:Nat),b<W.heap.size→n.w.cell? ⟨b,o,none⟩=W.cell? ⟨b,o,none⟩:=fun n b o hb=>n.h.cell (p:=⟨b,o,none⟩) hb
theorem wp_region_kin {e:Nat} {a:Act} {l:List Oper} (d:P.follows .mixedOrders=true) (c:Region.lexB .any l.toArray=true)
  (h:wpQuiet P l.toArray (fun w'=>∃ n:Kin W,w'=n.w) (fun b=>∀ w',(∃ n:Kin W,w'=n.w)→Q .normal b w') l a):(Code.region e l.toArray true).wp P Q a W :=
 wp_region_quiet (C:=fun w'=>∃ n:Kin W,w'=n.w) d c ⟨⟨W.drew,Qe (Qd _)⟩,rfl⟩ (by simpa using h)
theorem Qm {f:FuncId} {args:Array Value} {n:Kin W}
  (h:Calls P f args n.w fun e w'=>e=.returned v∧Below n.w.heap.size n.w w'):Calls P f args n.w fun e a=>e=.returned v∧∃ m:Kin W,a=m.w :=
 h.mono fun _ w' ⟨b,hb⟩=>⟨b,⟨w',Qb n.h hb⟩,rfl⟩
theorem Qj {c:Code} {a:Act} (h:∀ W,W=w→c.wp P Q a W):c.wp P Q a w:=h w rfl
theorem wk {id:Nat} {a:Act} {l:List Oper} (h:wpQuiet P l.toArray (fun w'=>∃ n:Kin W,w'=n.w) (fun a'=>∀ w',(∃ n:Kin W,w'=n.w)→Q .normal a' w') l a) (hm:P.follows .mixedOrders=true:=by kernel_rfl) (hB:Region.lexB .any l.toArray=true:=by kernel_rfl):(Code.region id l.toArray true).wp P Q a W:=wp_region_kin hm hB h
theorem kq1 {ops:Array Oper} {C:World→Prop} {R:Act→World→Prop} {a:Act} (h:∀ w',Below W.heap.size W w'→R a w'):wpQuiet P ops C (fun a'=>∀ w',(∃ n:Kin W,w'=n.w)→R a' w') [] a:=wpQuiet_nil (fun _ ⟨n,e⟩=>h _ (e ▸ n.h))
theorem kcn (W:World):(∀ (n:Kin W) (b o:Nat),b<W.heap.size→n.w.cell? ⟨b,o,none⟩=W.cell? ⟨b,o,none⟩)∧Nonempty (Kin W):=⟨Kin.cells W,⟨⟨W,Qd _⟩⟩⟩
section
variable {P:Program} {ops:Array Oper} {Q:Exit→Act→World→Prop} {S:World→Prop} {md:Region.Mode} {fuel:Nat} {listed:Array Bool} {a:Act} {w:World} {oi:Oper}
theorem Tk (i:Nat) (v:Value) {Z:Prop} (k:Z) (hi:ops[i]?=some oi:=by rfl) (hs:Region.noSelect ops=true:=by kernel_rfl) (hf:Region.free md ops listed i=true:=by kernel_rfl) (hr:(Region.ready md ops listed).contains i=true:=by kernel_rfl) (hQ:∀ c a w,Q (.panic c) (a.put oi.dst v) w→Q (.panic c) a w:=by exact fun _ _ _ h=>h) (hy:YieldsIf P ops S oi v a:=by exact Or.inl ⟨by rfl,by (intro w' hSw;(try dsimp only at hSw);go_simp)⟩) (hS:S w:=by assumption) (h:Z→wpAnyH P md ops Q S fuel (listed.setIfInBounds i true) (a.put oi.dst v) w:=by (intro z;(try simp only [Ap]);exact z)):wpAnyH P md ops Q S (fuel+1) listed a w:=wpAnyH_take hi hs hf hr hQ hy hS (h k)
theorem Tkd (i:Nat) (v:Value) {Z:Prop} (k:Z) (hi:ops[i]?=some oi:=by rfl) (hs:Region.noSelect ops=true:=by kernel_rfl) (hf:Region.free md ops listed i=true:=by kernel_rfl) (hr:(Region.ready md ops listed).contains i=true:=by kernel_rfl) (hQ:∀ c a w,Q (.panic c) (a.put oi.dst v) w→Q (.panic c) a w:=by exact fun _ _ _ h=>h) (hy:YieldsIf P ops S oi v a:=by exact Or.inl ⟨by rfl,by (intro w' hSw;(try dsimp only at hSw);go_simp <;> decide)⟩) (hS:S w:=by assumption) (h:Z→wpAnyH P md ops Q S fuel (listed.setIfInBounds i true) (a.put oi.dst v) w:=by (intro z;(try simp only [Ap]);exact z)):wpAnyH P md ops Q S (fuel+1) listed a w:=wpAnyH_take hi hs hf hr hQ hy hS (h k)
theorem Rd (i:Nat) {o:Oper} (ho:ops[i]?=some o) (h:∀ K':Act→World→Prop,Shut (∀ a w,S w→(S w→wpAnyH P md ops Q S fuel (listed.setIfInBounds i true) a w)→K' a w)→if Region.wanted o (yielded ops a.tmps)=true then Oper.wp P o a w K' Q else K' (a.put o.dst undef) w) (hr:Region.ready md ops listed=[i]:=by kernel_rfl):wpAnyH P md ops Q S (fuel+1) listed a w:=wpAnyH_ready hr (by simp) (AllReadyH.cons ho h AllReadyH.nil)
end
theorem Tv {ops:Array Oper} {S:World→Prop} {md:Region.Mode} {fuel:Nat} {listed:Array Bool} {a:Act} {oi:Oper} (i:Nat) {Z:Prop} (k:Z) (hi:ops[i]?=some oi:=by rfl) (hs:Region.noSelect ops=true:=by kernel_rfl) (hf:Region.free md ops listed i=true:=by kernel_rfl) (hr:(Region.ready md ops listed).contains i=true:=by kernel_rfl) (hQ:∀ c a w,Q (.panic c) (a.put oi.dst v) w→Q (.panic c) a w:=by exact fun _ _ _ h=>h) (hy:YieldsIf P ops S oi v a:=by (refine Or.inl ⟨by rfl, ?_⟩;intro w hSw;(try dsimp only at hSw);go_simp;(try with_reducible rfl))) (hS:S w:=by assumption) (h:Z→wpAnyH P md ops Q S fuel (listed.setIfInBounds i true) (a.put oi.dst v) w:=by (intro z;(try simp only [Ap]);exact z)):wpAnyH P md ops Q S (fuel+1) listed a w:=wpAnyH_take hi hs hf hr hQ hy hS (h k)
def ltT (a b:T3):Prop:=a.2.1<b.2.1∨(a.2.1=b.2.1∧(a.1<b.1∨(a.1=b.1∧a.2.2<b.2.2)))
theorem Xo (a:T3):¬ ltT a a:=by unfold ltT;omega
theorem Za (a b c:T3) (h1:ltT a b) (h2:ltT b c):ltT a c:=by unfold ltT at *;omega
def Heap (n:Nat) (pl:Nat→Int×Int×Int) (h:Nat→Int) (S:List (T3×List Nat)):Prop :=
 S.Pairwise (fun a b=>ltT a.1 b.1)∧(∀ s∈S,s.2≠[]∧s.2.Pairwise (fun i j=>h i<h j)∧∀ j∈s.2,j<n∧pl j=s.1)∧∀ j,j<n→∃ s∈S,j∈s.2
theorem pair_same {S:List (T3×List Nat)} (h:S.Pairwise (fun a b=>ltT a.1 b.1)):∀ {s t},s∈S→t∈S→s.1=t.1→s=t:=by
 induction h with
 | nil=>intro s t hs;simp at hs
 | cons h1 _ ih =>
  intro s t hs f e;rcases List.mem_cons.1 hs with e1 | d
  ·rcases List.mem_cons.1 f with e2 | c
   ·rw [e1,e2]
   ·have:=h1 t c;rw [← e1,e] at this;exact absurd this (Xo _)
  ·rcases List.mem_cons.1 f with e2 | c
   ·have:=h1 s d;rw [← e2,e] at this;exact absurd this (Xo _)
   ·exact ih d c e
theorem ltT_three {a b:T3} (h1:¬ ltT a b) (h2:a≠b):ltT b a:=by
 unfold ltT at *;have c:¬ (a.1=b.1∧a.2.1=b.2.1∧a.2.2=b.2.2):=fun e=>h2 (Prod.ext e.1 (Prod.ext e.2.1 e.2.2));omega
end Go.Proofs.YtbjmnlefkbhbdaaGreatDoor
namespace Go.Proofs
open Go.Shelf
def Tryz.lays212_ren:Go.Shelf.Ren:=⟨fun | 212=>88 | 263=>134 | 264=>135 | n=>n,fun | 46=>154 | 51=>207 | 146=>208 | 53=>210 | 148=>211 | n=>n,fun | n=>n⟩
theorem Tryz.lays212:Go.Proofs.Lays.n212 Tryz.prog Tryz.lays212_ren:={
 mixed:=by kernel_rfl
 f212:=Tryz.func88.trans (congrArg some (by kernel_rfl))
 f263:=Tryz.func134.trans (congrArg some (by kernel_rfl))
 f264:=Tryz.func135.trans (congrArg some (by kernel_rfl))
 t46:=Tryz.underlying154
 a46:=Tryz.isAgg154
 z46:=Tryz.sizeOf154
 v46:=Tryz.zeroValue154
 t51:=Tryz.underlying207
 a51:=Tryz.isAgg207
 z51:=Tryz.sizeOf207
 v51:=Tryz.zeroValue207
 t53:=Tryz.underlying210
 a53:=Tryz.isAgg210
 z53:=Tryz.sizeOf210
 v53:=Tryz.zeroValue210
 t146:=Tryz.underlying208
 a146:=Tryz.isAgg208
 z146:=Tryz.sizeOf208
 v146:=Tryz.zeroValue208
 t148:=Tryz.underlying211
 a148:=Tryz.isAgg211
 z148:=Tryz.sizeOf211
 v148:=Tryz.zeroValue211 }
open Go.RowKit Go.Lib in
theorem Tryz.bits_Mul (x y:Nat) (hx:x<18446744073709551616) (hy:y<18446744073709551616) (w:World) :
  Calls Tryz.prog 88 #[.int .u64 x,.int .u64 y] w fun e w'=>e=.returned (.tuple #[.int .u64 ((x*y / 18446744073709551616:Nat):Int),.int .u64 ((x*y % 18446744073709551616:Nat):Int)])∧w'=w:=Any.bits_Mul Tryz.lays212 x y hx hy w
end Go.Proofs
namespace Go.Proofs
open Go.Shelf
def Tryz.lays113_ren:Go.Shelf.Ren:=⟨fun | 113=>70 | n=>n,fun | 28=>23 | 3=>3 | 4=>4 | 9=>9 | 20=>20 | 0=>0 | n=>n,fun | n=>n⟩
theorem Tryz.lays113:Go.Proofs.Lays.n113 Tryz.prog Tryz.lays113_ren:={
 mixed:=by kernel_rfl
 f113:=Tryz.func70.trans (congrArg some (by kernel_rfl))
 t0:=Tryz.underlying0
 a0:=Tryz.isAgg0
 z0:=Tryz.sizeOf0
 v0:=Tryz.zeroValue0
 t3:=Tryz.underlying3
 a3:=Tryz.isAgg3
 z3:=Tryz.sizeOf3
 v3:=Tryz.zeroValue3
 t4:=Tryz.underlying4
 a4:=Tryz.isAgg4
 z4:=Tryz.sizeOf4
 v4:=Tryz.zeroValue4
 t9:=Tryz.underlying9
 a9:=Tryz.isAgg9
 z9:=Tryz.sizeOf9
 v9:=Tryz.zeroValue9
 t20:=Tryz.underlying20
 a20:=Tryz.isAgg20
 z20:=Tryz.sizeOf20
 v20:=Tryz.zeroValue20
 t28:=Tryz.underlying23
 a28:=Tryz.isAgg23
 z28:=Tryz.sizeOf23
 v28:=Tryz.zeroValue23 }
open Go.Lib in
theorem Tryz.slices_Max_int (b off n c:Nat) (zs:List Int) (w:World) (hn:0<n) (hz:n≤zs.length) (hbig:n≤9223372036854775807) (hc:∀ j,j<zs.length→w.cell? ⟨b,off+j,none⟩=some (.int .i64 (zs.getD j 0))) :
  Calls Tryz.prog 70 #[.slice (some ⟨b,off,none⟩) n c] w fun e w'=>e=.returned (.int .i64 (Lib.maxOf (zs.take n)))∧w'=w:=Any.slices_Max_int Tryz.lays113 b off n c zs w hn hz hbig hc
end Go.Proofs
namespace Go.Proofs.YtbjmnlefkbhbdaaGreatDoor
open Go.RowKit
variable {w:World} {L:Array Bool} {i n:Nat} {a:Act} {o:Oper}
attribute [local go_sem ↓] Go.wp_at_zero Go.wp_at_succ
theorem tri_bd {x y k:Int} (h:triB x y k=true):0≤k∧k≤3∧-1000000≤x∧x≤1000000∧-1000000≤y∧y≤1000000:=by simpa [triB] using h
theorem c1x_bd (x k:Int):2*x≤c1x x k∧c1x x k≤2*x+2:=by have:=stX_bd k;unfold c1x;omega
theorem c1y_bd (x k:Int):2*x≤c1y x k∧c1y x k≤2*x+2:=by have:=stY_bd k;unfold c1y;omega
theorem c2x_bd (x k:Int):2*x≤c2x x k∧c2x x k≤2*x+2:=by have:=stX_bd ((k+1) % 4);unfold c2x;omega
theorem c2y_bd (x k:Int):2*x≤c2y x k∧c2y x k≤2*x+2:=by have:=stY_bd ((k+1) % 4);unfold c2y;omega
theorem below_via {a w1:World} (h0:Bl w a) (hb:Bl a w1):Bl w w1:=h0.trans (hb.mono h0.size)
def sideN (v c x y k:Int):Int:=if c<alongOf v (2*x+1) (2*y+1)∨c<alongOf v (c1x x k) (c1y y k)∨c<alongOf v (c2x x k) (c2y y k) then 1 else -1
section
variable {P:Program} {ops:Array Oper} {Q:Exit→Act→World→Prop} {S:World→Prop} {late:Nat→Bool}
def Lt (P:Program) (ops:Array Oper) (Q:Exit→Act→World→Prop) (S:World→Prop) (late:Nat→Bool):Nat→Array Bool→Act→World→Prop
 | 0,L,a,w=>Region.ready .any ops L=[]∧Q .normal a w
 | n+1,L,a,w=>(Region.ready .any ops L=[]→Q .normal a w)∧∀ i,i∈Region.ready .any ops L→wpOp P ops Q i (fun a' w'=>(late i=false→S w')∧Lt P ops Q S late n (L.setIfInBounds i true) a' w') a w
theorem Lt.any:∀ (n:Nat) (L:Array Bool) (a:Act) (w:World),Lt P ops Q S late n L a w→wpAny P .any ops Q n L a w
 | 0,_,_,_,h=>h
 | n+1,L,_,_,h=>⟨h.1,fun i hi=>wpOp_mono (fun b w' k=>Lt.any n (L.setIfInBounds i true) b w' k.2) (h.2 i hi)⟩
def Clo (ops:Array Oper) (L:Array Bool):Prop := ∀ j o,ops[j]?=some o→L.getD j false=true→∀ e∈o.after,Region.binds .any e=true→L.getD e.on false=true
def cloB (ops:Array Oper) (L:Array Bool):Bool:=(List.range ops.size).all fun j => !(L.getD j false) || match ops[j]? with | some o=>o.after.toList.all fun e => !(Region.binds .any e) || L.getD e.on false | none=>true
theorem clo_of (h:cloB ops L=true):Clo ops L:=fun j o b d e c hb=>by
 have a:j<ops.size:=by
  rcases Nat.lt_or_ge j ops.size with k | k
  ·exact k
  ·rw [Array.getElem?_eq_none k] at b
   cases b
 have h1:=List.all_eq_true.1 h j (List.mem_range.2 a);rw [d,b] at h1;simp only [Bool.not_true,Bool.false_or] at h1;have h2:=List.all_eq_true.1 h1 e (by simpa using c);rw [hb] at h2;simpa using h2
def Wt (ops:Array Oper) (i:Nat):Nat→Nat→Prop
 | 0,_=>False
 | n+1,j=>∃ o,ops[j]?=some o∧∃ e,e∈o.after∧Region.binds .any e=true∧(e.on=i∨Wt ops i n e.on)
def wtB (ops:Array Oper) (i:Nat):Nat→Nat→Bool
 | 0,_=>false
 | n+1,j=>match ops[j]? with | some o=>o.after.toList.any fun e=>Region.binds .any e && (e.on == i || wtB ops i n e.on) | none=>false
theorem wt_of:∀ (n j:Nat),wtB ops i n j=true→Wt ops i n j
 | 0,_,h=>by cases h
 | n+1,j,h=>by
  unfold wtB at h
  cases ho:ops[j]? with
  | none=>rw [ho] at h;cases h
  | some o =>
   rw [ho] at h;obtain ⟨e,a,h2⟩:=List.any_eq_true.1 h;rw [Bool.and_eq_true,Bool.or_eq_true] at h2;refine ⟨o,ho,e,by simpa using a,h2.1, ?_⟩;rcases h2.2 with h3 | h3
   ·exact Or.inl (by simpa using h3)
   ·exact Or.inr (wt_of n e.on h3)
theorem wt_came (d:Clo ops L):∀ (n j:Nat),Wt ops i n j→(∀ o,ops[j]?=some o→∀ e∈o.after,Region.binds .any e=true→L.getD e.on false=true)→L.getD i false=true
 | 0,_,h,_=>h.elim
 | n+1,j,⟨o,ho,e,he,hb,h⟩,hj=>by
  have h1:=hj o ho e he hb;rcases h with h | h
  ·rw [h] at h1;exact h1
  ·exact wt_came d n e.on h (fun o2 c e2 b a=>d e.on o2 c h1 e2 b a)
def Wts (ops:Array Oper) (late:Nat→Bool) (i:Nat):Prop := ∀ j o,ops[j]?=some o→late j=true→Wt ops i 8 j
def wtsB (ops:Array Oper) (late:Nat→Bool) (i:Nat):Bool:=(List.range ops.size).all fun j => !(late j) || wtB ops i 8 j
theorem wts_of (h:wtsB ops late i=true):Wts ops late i:=fun j o b c=>by
 have a:j<ops.size:=by
  rcases Nat.lt_or_ge j ops.size with k | k
  ·exact k
  ·rw [Array.getElem?_eq_none k] at b
   cases b
 have h1:=List.all_eq_true.1 h j (List.mem_range.2 a);rw [c] at h1;exact wt_of 8 j (by simpa using h1)
theorem getD_apart (h:L.getD i true=false):L.getD i false=false:=by
 rcases Nat.lt_or_ge i L.size with k | k
 ·simp [k] at h ⊢;exact h
 ·simp [Array.getElem?_eq_none k] at h
theorem clo_set (h:Clo ops L) {j:Nat} (g:j∈Region.ready .any ops L):Clo ops (L.setIfInBounds j true):=fun k o b f e d hb=>by
 obtain ⟨_,i,c,a⟩:=mem_ready.1 g;refine getD_set_true ?_;by_cases e1:j=k
 ·subst e1;rw [c] at b
  cases b;exact a e d hb
 ·rw [getD_set_ne false e1] at f;exact h k o b f e d hb
theorem Lt.first {h:Oper} {v:Value} (hi:ops[i]?=some h) (r:Region.noSelect ops=true) (F:∀ c a w,Q (.panic c) (a.put h.dst v) w→Q (.panic c) a w) (K:Wts ops late i) (J:late i=false) :
  ∀ (n:Nat) (L:Array Bool) (a:Act) (w:World),Clo ops L→(∀ j g,ops[j]?=some g→j≠i→L.getD j true=false→(∀ e∈g.after,Region.binds .any e=true→e.on≠i)→h.apart ops g=true) →
   i∈Region.ready .any ops L→YieldsIf P ops S h v a→S w→Lt P ops Q S late n (L.setIfInBounds i true) (a.put h.dst v) w→Lt P ops Q S late (n+1) L a w:=by
 intro n;induction n with
 | zero =>
  intro L a w _ _ hr y l H;refine ⟨fun h0=>absurd hr (by rw [h0];simp),fun j o=>?_⟩;by_cases e:j=i
  ·subst e;exact y.wpOp hi l ⟨fun _=>l,H⟩
  ·have h1:=ready_mono o e;rw [H.1] at h1
   cases h1
 | succ n ih =>
  intro L a w C D hr y l H;refine ⟨fun h0=>absurd hr (by rw [h0];simp),fun j o=>?_⟩;by_cases e:j=i
  ·subst e;exact y.wpOp hi l ⟨fun _=>l,H⟩
  ·obtain ⟨t,g,d,f⟩:=mem_ready.1 o;have m:=getD_apart (mem_ready.1 hr).1
   have A:∀ x∈g.after,Region.binds .any x=true→x.on≠i:=fun x M hb B=>by
    have:=f x M hb;rw [B,m] at this
    cases this
   have p:late j=false:=by
    cases hl:late j with
    | false=>rfl
    | true =>
     have:=wt_came C 8 j (K j g d hl) (fun o2 s=>by rw [d] at s;cases s;exact f);rw [m] at this
     cases this
   have h2:=wpOp_putIf (S:=S) d (D j g d e t A) (fun cs b=>Region.noSelect_spec r i h cs b hi) (fun cs b=>Region.noSelect_spec r j g cs b d) F y (H.2 j (ready_mono o e));refine wpOp_mono (fun E w' h3=>⟨fun _=>h3.2.1 p,ih (L.setIfInBounds j true) E w' (clo_set C o) (fun k ok G z u q=>D k ok G z ?_ q) (ready_mono hr (Ne.symm e)) h3.1 (h3.2.1 p) ?_⟩) h2
   ·by_cases ejk:j=k
    ·subst ejk;exact t
    ·rwa [getD_set_ne true ejk] at u
   ·rw [Array.setIfInBounds_comm _ _ e];exact h3.2.2
theorem Lt.take {b:Oper} {v:Value} (hi:ops[i]?=some b) (e:Region.noSelect ops=true) (j:cloB ops L=true) (l:wtsB ops late i=true) (d:late i=false)
  (k:Region.free .any ops L i=true) (hr:(Region.ready .any ops L).contains i=true) (f:∀ c a w,Q (.panic c) (a.put b.dst v) w→Q (.panic c) a w) (m:YieldsIf P ops S b v a) (g:S w)
  (h:Lt P ops Q S late n (L.setIfInBounds i true) (a.put b.dst v) w):Lt P ops Q S late (n+1) L a w :=
 Lt.first hi e f (wts_of l) d n L a w (clo_of j) (Region.free_spec hi k) (by simpa using hr) m g h
theorem Lt.one (hr:Region.ready .any ops L=[i]) (hi:ops[i]?=some o) (hg:o.guard=none)
  (h:Oper.wp P o a w (fun c w'=>(late i=false→S w')∧Lt P ops Q S late n (L.setIfInBounds i true) c w') Q):Lt P ops Q S late (n+1) L a w:=by
 refine ⟨fun h0=>(by rw [hr] at h0;cases h0),fun j b=>?_⟩;rw [hr] at b;obtain rfl:j=i:=by simpa using b
 unfold wpOp;simp only [hi];rw [if_pos (by simp [Region.wanted,hg])];exact Or.inl h
theorem Lt.done (hr:Region.ready .any ops L=[]) (h:Q .normal a w):Lt P ops Q S late n L a w:=by
 cases n with
 | zero=>exact ⟨hr,h⟩
 | succ n=>exact ⟨fun _=>h,fun i hi=>(by rw [hr] at hi;cases hi)⟩
theorem Qz {c:Nat} (b:P.follows .mixedOrders=true) (h:Lt P ops Q S late ops.size (Array.replicate ops.size false) a w.drew):(Code.region c ops true).wp P Q a w :=
 wp_region_any b (Lt.any _ _ _ _ h)
theorem Jc {K:Act→World→Prop} {R:Ending→World→Prop} (f:FuncId) (args:Array Value) (b:(execOp a.eval o).run P w=.ok (.enter f args) w) (c:Calls P f args w R)
  (h:∀ e w',R e w'→∃ v,e=.returned v∧K (a.put o.dst v) w'):Oper.wp P o a w K Q:=by
 unfold Oper.wp;rw [b,Oper.upon_enter];refine c.mono fun e w' d=>?_;obtain ⟨v,rfl,g⟩:=h e w' d;exact g
theorem Yb {w':World} {K:Act→World→Prop} (b:(execOp a.eval o).run P w=.ok .skip w') (h:K (a.put o.dst undef) w'):Oper.wp P o a w K Q:=by
 unfold Oper.wp;rw [b];exact h
end
section
variable {P:Program} {ops:Array Oper} {Q:Exit→Act→World→Prop} {S:World→Prop} {late:Nat→Bool} {n:Nat} {L:Array Bool} {a:Act} {w:World} {oi:Oper}
theorem Lk (i:Nat) (v:Value) (hS:S w) {Z:Prop} (k:Z) (hi:ops[i]?=some oi:=by rfl) (hns:Region.noSelect ops=true:=by kernel_rfl) (hc:cloB ops L=true:=by kernel_rfl) (hw:wtsB ops late i=true:=by kernel_rfl) (hli:late i=false:=by rfl) (hf:Region.free .any ops L i=true:=by kernel_rfl) (hr:(Region.ready .any ops L).contains i=true:=by kernel_rfl) (hQ:∀ c a w,Q (.panic c) (a.put oi.dst v) w→Q (.panic c) a w:=by exact fun _ _ _ h=>h) (hy:YieldsIf P ops S oi v a:=by exact Or.inl ⟨by rfl,by (intro w' hSw;(try dsimp only at hSw);go_simp)⟩) (h:Z→Lt P ops Q S late n (L.setIfInBounds i true) (a.put oi.dst v) w:=by (intro z;(try simp only [Ap]);exact z)):Lt P ops Q S late (n+1) L a w:=Lt.take hi hns hc hw hli hf hr hQ hy hS (h k)
theorem Lkd (i:Nat) (v:Value) (hS:S w) {Z:Prop} (k:Z) (hi:ops[i]?=some oi:=by rfl) (hns:Region.noSelect ops=true:=by kernel_rfl) (hc:cloB ops L=true:=by kernel_rfl) (hw:wtsB ops late i=true:=by kernel_rfl) (hli:late i=false:=by rfl) (hf:Region.free .any ops L i=true:=by kernel_rfl) (hr:(Region.ready .any ops L).contains i=true:=by kernel_rfl) (hQ:∀ c a w,Q (.panic c) (a.put oi.dst v) w→Q (.panic c) a w:=by exact fun _ _ _ h=>h) (hy:YieldsIf P ops S oi v a:=by exact Or.inl ⟨by rfl,by (intro w' hSw;(try dsimp only at hSw);go_simp <;> decide)⟩) (h:Z→Lt P ops Q S late n (L.setIfInBounds i true) (a.put oi.dst v) w:=by (intro z;(try simp only [Ap]);exact z)):Lt P ops Q S late (n+1) L a w:=Lt.take hi hns hc hw hli hf hr hQ hy hS (h k)
end
end Go.Proofs.YtbjmnlefkbhbdaaGreatDoor
