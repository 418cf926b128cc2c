/- A part of it. -/
import Derived.Test.YtjkjpopghkeibaaGreatDoorProg
import Derived.WalkSpells
import Derived.WalkLawsBesides
import Derived.Deep.RegionHeld3
set_option maxRecDepth 100000
set_option maxHeartbeats 40000000
namespace Go.Proofs.YtjkjpopghkeibaaGreatDoor
open Go.RowKit
variable {w:World} {o p q:Obj}
abbrev T3:=Int×Int×Int
abbrev E4:=Int×Int×Int×Int
abbrev M6:=Int×Int×Int×Int×Int×Int
@[simp,go_sem] abbrev I (n:Int):Value:=.int .i64 n
@[simp,go_sem] abbrev SN:Value:=.slice none 0 0
@[simp,go_sem] abbrev Az (b:Nat):Option Addr:=some ⟨b,0,none⟩
@[simp,go_sem] abbrev Ad (b o:Nat):Option Addr:=some ⟨b,o,none⟩
@[simp,go_sem] abbrev At (w:World) (b o:Nat) (v:Value):Prop:=w.cell? ⟨b,o,none⟩=some v
abbrev Cl (f:FuncId) (a:Array Value) (w:World) (R:Ending→World→Prop):Prop:=Calls Tryz.prog f a w R
abbrev Bl (w w':World):Prop:=Below w.heap.size w w'
abbrev Rt (f:FuncId) (a:Array Value) (w:World) (v:Value):Prop:=Calls Tryz.prog f a w fun e w'=>e=.returned v∧Below w.heap.size w w'
theorem bk {a:Addr} {v:Value} (h:w.cell? a=some v):a.block<w.heap.size:=World.block_lt_of_cell? _ _ h
theorem Bt {b o:Nat} {v:Value} (h:w.cell? ⟨b,o,none⟩=some v):b<w.heap.size:=World.block_lt_of_cell? (w:=w) (a:=⟨b,o,none⟩) h
@[simp,go_sem] abbrev Fn (w:World) (b o:Nat):Prop:=w.frozen? ⟨b,o,none⟩=false
theorem Fk (b o:Nat) {w':World} (hb:Below w.heap.size w w') (h:b<w.heap.size:=by simp <;> omega) (k:w.frozen? ⟨b,o,none⟩=false:=by simp [go_sem]):w'.frozen? ⟨b,o,none⟩=false:=(hb.frozen (p:=⟨b,o,none⟩) h).trans k
theorem Hd {p:Prop} (h:p):Hid p:=h
theorem H2 {p q:Prop} (a:p) (b:q):Hid (p∧q):=⟨a,b⟩
theorem H3 {p q r:Prop} (a:p) (b:q) (c:r):Hid (p∧q∧r):=⟨a,b,c⟩
theorem H4 {p q r s:Prop} (a:p) (b:q) (c:r) (d:s):Hid (p∧q∧r∧s):=⟨a,b,c,d⟩
theorem H5 {p q r s t:Prop} (a:p) (b:q) (c:r) (d:s) (e:t):Hid (p∧q∧r∧s∧t):=⟨a,b,c,d,e⟩
theorem H6 {p q r s t u:Prop} (a:p) (b:q) (c:r) (d:s) (e:t) (f:u):Hid (p∧q∧r∧s∧t∧u):=⟨a,b,c,d,e,f⟩
theorem H7 {p q r s t u v:Prop} (a:p) (b:q) (c:r) (d:s) (e:t) (f:u) (g:v):Hid (p∧q∧r∧s∧t∧u∧v):=⟨a,b,c,d,e,f,g⟩
theorem H8 {p q r s t u v x:Prop} (a:p) (b:q) (c:r) (d:s) (e:t) (f:u) (g:v) (h:x):Hid (p∧q∧r∧s∧t∧u∧v∧x):=⟨a,b,c,d,e,f,g,h⟩
theorem H9 {p q r s t u v x y:Prop} (a:p) (b:q) (c:r) (d:s) (e:t) (f:u) (g:v) (h:x) (i:y):Hid (p∧q∧r∧s∧t∧u∧v∧x∧y):=⟨a,b,c,d,e,f,g,h,i⟩
theorem Ap:(∀ (a:Act) (d:Tmp) (v:Value),a.put (some d) v={ a with tmps:=a.tmps.setIfInBounds d v })∧(∀ (a:Act) (v:Value),a.put none v=a)∧(∀ {α:Type} (l:List α) (i:Nat) (h:i<l.toArray.size),l.toArray[i]=l[i]'(by simpa using h))∧(∀ {α:Type} (a:α) (l:List α) (i:Nat) (h:i+1<(a::l).length),(a::l)[i+1]=l[i]'(by simpa using h))∧(∀ {α:Type} (a:α) (l:List α) (h:0<(a::l).length),(a::l)[0]=a)∧(∀ {α:Type} (l:List α) (i:Nat) (a:α),l.toArray.setIfInBounds i a=(l.set i a).toArray)∧(∀ {α:Type} (a b:α) (l:List α),(a::l).set 0 b=b::l)∧(∀ {α:Type} (a b:α) (l:List α) (n:Nat),(a::l).set (n+1) b=a::l.set n b):=⟨fun _ _ _=>rfl,fun _ _=>rfl,fun _ _ _=>rfl,fun _ _ _ _=>rfl,fun _ _ _=>rfl,fun _ _ _=>List.setIfInBounds_toArray _ _ _,fun _ _ _=>rfl,fun _ _ _ _=>rfl⟩
theorem Aq:(∀ (a:Act) (d:Tmp) (v:Value),a.put (some d) v={ a with tmps:=a.tmps.setIfInBounds d v })∧(∀ (a:Act) (v:Value),a.put none v=a)∧(∀ {α:Type} (l:List α) (i:Nat) (a:α),l.toArray.setIfInBounds i a=(l.set i a).toArray)∧(∀ {α:Type} (a b:α) (l:List α),(a::l).set 0 b=b::l)∧(∀ {α:Type} (a b:α) (l:List α) (n:Nat),(a::l).set (n+1) b=a::l.set n b):=⟨fun _ _ _=>rfl,fun _ _=>rfl,fun _ _ _=>List.setIfInBounds_toArray _ _ _,fun _ _ _=>rfl,fun _ _ _ _=>rfl⟩
abbrev Ca:=@World.cell?_alloc_past
abbrev Fz:=@World.frozen?_setCell
abbrev Fo:=@World.frozen?_of_block
abbrev Co:=@World.cell?_setCell_other
abbrev Cs:=@World.cell?_setCell_same
abbrev Lm:=@List.getElem_mem
abbrev Nl:=@Nat.lt_of_lt_of_le
abbrev Nt:=@Nat.le_trans
abbrev Nr:=@Nat.le_refl
theorem β1:Below w.heap.size w (w.alloc o):=(Below.refl _ _).alloc (Nat.le_refl _) _
theorem β2:Below w.heap.size w ((w.alloc o).alloc p):=β1.alloc β1.size _
theorem β3:Below w.heap.size w (((w.alloc o).alloc p).alloc q):=β2.alloc β2.size _
theorem β4 {r:Obj}:Below w.heap.size w ((((w.alloc o).alloc p).alloc q).alloc r):=β3.alloc β3.size _
theorem β5 {r s:Obj}:Below w.heap.size w (((((w.alloc o).alloc p).alloc q).alloc r).alloc s):=β4.alloc β4.size _
theorem γ {P:Prop} (h:P:=by omega):P:=h
theorem δ {P:Prop} (h:P:=by simp [go_sem]):P:=h
theorem ε {P:Prop} (h:P:=by first | (simp [go_sem];done) | (simp [go_sem,Ca];done)):P:=h
theorem ζ {P:Prop} (h:P:=by with_reducible (repeat (first | assumption | refine Qq ?_ | refine Qk ?_))):P:=h
theorem η {P:Prop} (h:P:=by kernel_rfl):P:=h
theorem θ {P:Prop} (h:P:=by dsimp only;omega):P:=h
theorem κ {P:Prop} (h:P:=by first | rfl | (dsimp only;omega)):P:=h
theorem μ {P:Prop} (h:P:=by first | (with_reducible (repeat (first | assumption | refine Qq ?_ | refine Qk ?_));done) | (simp [go_sem];done)):P:=h
theorem ν {P:Prop} (h:P:=by rw [hW0];simp [go_sem]):P:=h
theorem ξ {P:Prop} (h:P:=by simp):P:=h
theorem π {P:Prop} (h:P:=by simp <;> omega):P:=h
theorem σ {P:Prop} (h:P:=by go_num):P:=h
theorem τ {P:Prop} (h:P:=by with_reducible repeat (first | refine Qb ?_ | refine Qg ?_ | exact Qe _)):P:=h
theorem υ {P:Prop} (h:P:=by rw [IntKind.wrap_i64];omega):P:=h
theorem φ {P:Prop} (h:P:=by with_reducible repeat (first | exact Qe _ | refine Qg ?_)):P:=h
theorem χ {P:Prop} (h:P:=by assumption):P:=h
theorem ψ {P:Prop} (h:P:=by decide):P:=h
theorem ω {P:Prop} (h:P:=by simp;omega):P:=h
theorem Γ {P:Prop} (h:P:=by with_reducible assumption):P:=h
theorem Δ {P:Prop} (h:P:=by go_split_ands;first | assumption | exact Steps.kept (by assumption) (Qg (Qe _))):P:=h
theorem Θ {P:Prop} (h:P:=by with_reducible exact Qb (Qe _)):P:=h
theorem Ξ {P:Prop} (h:P:=by unfold maxLen;omega):P:=h
theorem Φ {P:Prop} (h:P:=by unfold Kd;dsimp only;omega):P:=h
theorem Ψ {P:Prop} (h:P:=by with_reducible exact Qb β1):P:=h
theorem Ω {P:Prop} (h:P:=by rfl):P:=h
theorem γ0 {P:Prop} (h:P:=by with_reducible (repeat (first | assumption | refine Qq ?_))):P:=h
theorem γ1 {P:Prop} (h:P:=by with_reducible repeat (first | exact Qe _ | refine Qg ?_ | refine Qb ?_)):P:=h
theorem γ2 {P:Prop} (h:P:=by rw [hW1];simp [go_sem]):P:=h
theorem γ3 {P:Prop} (h:P:=by first | (simp [go_sem];done) | (simp [go_sem, *];done)):P:=h
theorem γ4 {P:Prop} (h:P:=by rw [hW0];exact Qb (Qe _)):P:=h
theorem γ5 {P:Prop} (h:P:=by simp [sideB];omega):P:=h
theorem γ6 {P:Prop} (h:P:=by rw [List.length_take];omega):P:=h
theorem γ7 {P:Prop} (h:P:=by go_split_ands;with_reducible first | assumption | exact Steps.kept (by assumption) (Qg (Qe _)) | exact Steps.kept (by assumption) (by assumption)):P:=h
theorem γ8 {P:Prop} (h:P:=by simp [Tr,go_sem]):P:=h
theorem γ9 {P:Prop} (h:P:=by first | rfl | go_num | (congr 1 <;> omega)):P:=h
theorem δ0 {P:Prop} (h:P:=by first | rfl | go_num):P:=h
theorem δ1 {P:Prop} (h:P:=by simp;try omega):P:=h
theorem δ2 {P:Prop} (h:P:=by simp [Value.ownBlock]):P:=h
theorem δ3 {P:Prop} (h:P:=by simp [Mp,go_sem]):P:=h
theorem δ4 {P:Prop} (h:P:=by with_reducible (first | exact Qg β1 | exact Qb (Qg (Qe _)))):P:=h
def inB (n a b:Int):Bool:=decide (a≤n∧n≤b)
def evenB (n:Int):Bool:=decide (-1000000≤n∧n≤1000000∧n % 2=0)
def unitB (n:Int):Bool:=decide (n=1∨n=-1)
def triB (x y k:Int):Bool:=decide (0≤k∧k≤3∧-1000000≤x∧x≤1000000∧-1000000≤y∧y≤1000000)
def lineB (way c:Int):Bool:=decide (0≤way∧way≤3∧-1000000≤c∧c≤1000000∧c % 2=0)
theorem Qv {a b:Bool} (h:a=b):Ending.returned (.bool a)=.returned (.bool b):=by rw [h]
theorem Jp {k:IntKind} {a b:Int} (h:a=b):Ending.returned (.int k a)=.returned (.int k b):=by rw [h]
theorem tmod2 (c:Int):c.tmod 2=0↔c % 2=0:=by rw [← Int.dvd_iff_tmod_eq_zero,Int.dvd_iff_emod_eq_zero]
theorem Qan (n:Int) (w:World) :
  Cl 161 #[I n] w fun e w'=>e=.returned (.bool (inB n 0 3))∧w'=w:=by
 go_enter Tryz.func161,Tryz.ntmps161;go_wp2
 all_goals
  go_ret;exact ⟨Qv (by rw [Bool.eq_iff_iff];simp [inB];omega),rfl⟩
theorem near_any (n:Int) (w:World) :
  Cl 163 #[I n] w fun e w'=>e=.returned (.bool (inB n (-1000000) 1000000))∧w'=w:=by
 go_enter Tryz.func163,Tryz.ntmps163;go_wp2
 all_goals
  go_ret;exact ⟨Qv (by rw [Bool.eq_iff_iff];simp [inB];omega),rfl⟩
theorem unit_any (n:Int) (w:World) :
  Cl 186 #[I n] w fun e w'=>e=.returned (.bool (unitB n))∧w'=w:=by
 go_enter Tryz.func186,Tryz.ntmps186;go_wp2
 all_goals
  go_ret;exact ⟨Qv (by rw [Bool.eq_iff_iff];simp_all [unitB]),rfl⟩
theorem Ul (n:Int) (w:World) :
  Cl 162 #[I n] w fun e w'=>e=.returned (.bool (evenB n))∧w'=w:=by
 by_cases h:inB n (-1000000) 1000000=true
 ·have a : -1000000≤n∧n≤1000000:=by simpa [inB] using h
  obtain ⟨b1,b2⟩:=a;go_enter Tryz.func162,Tryz.ntmps162;go_wp2_with (go_at_call 163;refine (near_any _ _).mono ?_;rintro e w' ⟨rfl,rfl⟩)
  go_ret;exact ⟨Qv (by rw [Bool.eq_iff_iff];simp [evenB,tmod2];omega),rfl⟩
 ·go_enter Tryz.func162,Tryz.ntmps162;go_wp2_with (go_at_call 163;refine (near_any _ _).mono ?_;rintro e w' ⟨rfl,rfl⟩)
  go_ret;exact ⟨Qv (by rw [Bool.eq_iff_iff];simp [evenB,inB] at h ⊢;omega),rfl⟩
theorem Xd (x y k:Int) (w:World) :
  Cl 116 #[.agg #[I x,I y,I k]] w fun e w'=>e=.returned (.bool (triB x y k))∧∃ o,w'=w.alloc o:=by
 go_enter Tryz.func116,Tryz.ntmps116;go_wp2_with (first | (go_at_call 161;refine (Qan _ _).mono ?_;rintro e w' ⟨rfl,rfl⟩) | (go_at_call 163;refine (near_any _ _).mono ?_;rintro e w' ⟨rfl,rfl⟩))
 all_goals
  go_ret;exact ⟨Qv (by rw [Bool.eq_iff_iff];simp_all [inB,triB];try omega),_,rfl⟩
theorem mayLine_any (y c:Int) (w:World) :
  Cl 115 #[.agg #[I y,I c]] w fun e w'=>e=.returned (.bool (lineB y c))∧∃ o,w'=w.alloc o:=by
 go_enter Tryz.func115,Tryz.ntmps115;go_wp2_with (first | (go_at_call 161;refine (Qan _ _).mono ?_;rintro e w' ⟨rfl,rfl⟩) | (go_at_call 162;refine (Ul _ _).mono ?_;rintro e w' ⟨rfl,rfl⟩))
 all_goals
  go_ret;exact ⟨Qv (by rw [Bool.eq_iff_iff];simp_all [inB,lineB,evenB];try omega),_,rfl⟩
end Go.Proofs.YtjkjpopghkeibaaGreatDoor
