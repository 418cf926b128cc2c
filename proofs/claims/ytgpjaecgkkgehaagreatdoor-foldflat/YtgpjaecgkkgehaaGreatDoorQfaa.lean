/- A part of the proof of foldFlat_holds. -/
import Derived.Test.YtgpjaecgkkgehaaGreatDoorProg
import Derived.WalkKit
import Derived.WalkSpells
import Derived.WalkLawsBesides
import Derived.Deep.RegionHeld3
import Derived.Deep.DrawnRows
import Derived.Deep.LoopGhost
import Derived.Deep.DeepCutAuto
import Derived.Deep.CutBlock
import Derived.Test.YtgpjaecgkkgehaaGreatDoorRows
import Derived.ProofKit
import Derived.LaidMore
import Derived.OpenShut
import Derived.Stop.Joined
import Derived.Lib.SmallJoins
namespace Go.Proofs.YtgpjaecgkkgehaaGreatDoor
open Go.RowKit
def inB (n a b:Int):Bool:=decide (a≤n∧n≤b)
def evenB (n:Int):Bool:=decide (-1000000≤n∧n≤1000000∧n % 2=0)
def unitB (n:Int):Bool:=decide (n=1∨n=-1)
def triB (x y k:Int):Bool:=decide (0≤k∧k≤3∧-1000000≤x∧x≤1000000∧-1000000≤y∧y≤1000000)
def lineB (way c:Int):Bool:=decide (0≤way∧way≤3∧-1000000≤c∧c≤1000000∧c % 2=0)
theorem ret_bool {a b:Bool} (h:a=b):Ending.returned (.bool a)=.returned (.bool b):=by rw [h]
theorem ret_int {k:IntKind} {a b:Int} (h:a=b):Ending.returned (.int k a)=.returned (.int k b):=by rw [h]
theorem tmod2 (c:Int):c.tmod 2=0↔c % 2=0:=by rw [← Int.dvd_iff_tmod_eq_zero,Int.dvd_iff_emod_eq_zero]
theorem inBounds_any (n a b:Int) (w:World) :
  Calls Tryz.prog 58 #[.int .i64 n,.int .i64 a,.int .i64 b] w fun e w'=>e=.returned (.bool (inB n a b))∧w'=w:=by
 go_enter Tryz.func58,Tryz.ntmps58
 go_wp2
 all_goals
  go_ret
  exact ⟨ret_bool (by rw [Bool.eq_iff_iff];simp [inB];omega),rfl⟩
theorem quarter_any (n:Int) (w:World) :
  Calls Tryz.prog 123 #[.int .i64 n] w fun e w'=>e=.returned (.bool (inB n 0 3))∧w'=w:=by
 go_enter Tryz.func123,Tryz.ntmps123
 go_wp2
 all_goals
  go_ret
  exact ⟨ret_bool (by rw [Bool.eq_iff_iff];simp [inB];omega),rfl⟩
theorem near_any (n:Int) (w:World) :
  Calls Tryz.prog 124 #[.int .i64 n] w fun e w'=>e=.returned (.bool (inB n (-1000000) 1000000))∧w'=w:=by
 go_enter Tryz.func124,Tryz.ntmps124
 go_wp2
 all_goals
  go_ret
  exact ⟨ret_bool (by rw [Bool.eq_iff_iff];simp [inB];omega),rfl⟩
theorem unit_any (n:Int) (w:World) :
  Calls Tryz.prog 157 #[.int .i64 n] w fun e w'=>e=.returned (.bool (unitB n))∧w'=w:=by
 go_enter Tryz.func157,Tryz.ntmps157
 go_wp2
 all_goals
  go_ret
  exact ⟨ret_bool (by rw [Bool.eq_iff_iff];simp_all [unitB]),rfl⟩
theorem evenPlace_any (n:Int) (w:World) :
  Calls Tryz.prog 149 #[.int .i64 n] w fun e w'=>e=.returned (.bool (evenB n))∧w'=w:=by
 by_cases h:inB n (-1000000) 1000000=true
 ·have hb : -1000000≤n∧n≤1000000:=by simpa [inB] using h
  obtain ⟨b1,b2⟩:=hb
  go_enter Tryz.func149,Tryz.ntmps149
  go_wp2_with (go_at_call 124;refine (near_any _ _).mono ?_;rintro e w' ⟨rfl,rfl⟩)
  go_ret
  exact ⟨ret_bool (by rw [Bool.eq_iff_iff];simp [evenB,tmod2];omega),rfl⟩
 ·go_enter Tryz.func149,Tryz.ntmps149
  go_wp2_with (go_at_call 124;refine (near_any _ _).mono ?_;rintro e w' ⟨rfl,rfl⟩)
  go_ret
  exact ⟨ret_bool (by rw [Bool.eq_iff_iff];simp [evenB,inB] at h ⊢;omega),rfl⟩
theorem mayTri_any (x y k:Int) (w:World) :
  Calls Tryz.prog 89 #[.agg #[.int .i64 x,.int .i64 y,.int .i64 k]] w fun e w'=>e=.returned (.bool (triB x y k))∧∃ o,w'=w.alloc o:=by
 go_enter Tryz.func89,Tryz.ntmps89
 go_wp2_with (first | (go_at_call 123;refine (quarter_any _ _).mono ?_;rintro e w' ⟨rfl,rfl⟩) | (go_at_call 124;refine (near_any _ _).mono ?_;rintro e w' ⟨rfl,rfl⟩))
 all_goals
  go_ret
  exact ⟨ret_bool (by rw [Bool.eq_iff_iff];simp_all [inB,triB];try omega),_,rfl⟩
theorem mayLine_any (y c:Int) (w:World) :
  Calls Tryz.prog 118 #[.agg #[.int .i64 y,.int .i64 c]] w fun e w'=>e=.returned (.bool (lineB y c))∧∃ o,w'=w.alloc o:=by
 go_enter Tryz.func118,Tryz.ntmps118
 go_wp2_with (first | (go_at_call 123;refine (quarter_any _ _).mono ?_;rintro e w' ⟨rfl,rfl⟩) | (go_at_call 149;refine (evenPlace_any _ _).mono ?_;rintro e w' ⟨rfl,rfl⟩))
 all_goals
  go_ret
  exact ⟨ret_bool (by rw [Bool.eq_iff_iff];simp_all [inB,lineB,evenB];try omega),_,rfl⟩
open Go.RowKit
attribute [local go_sem ↓] Go.wp_at_zero Go.wp_at_succ
theorem turned_any (k q:Int) (w:World) (h0:0≤k) (h1:k≤3) (h2:0≤q) (h3:q≤3) :
  Calls Tryz.prog 127 #[.int .i64 k,.int .i64 q] w fun e w'=>e=.returned (.int .i64 ((k+q) % 4))∧w'=w:=by
 go_enter Tryz.func127,Tryz.ntmps127
 go_wp2
 go_ret
 exact ⟨rfl,rfl⟩
theorem middle_any (x y k:Int) (w:World) (h:triB x y k=true) :
  Calls Tryz.prog 125 #[.agg #[.int .i64 x,.int .i64 y,.int .i64 k]] w fun e w'=>e=.returned (.agg #[.int .i64 (2*x+1),.int .i64 (2*y+1)])∧∃ o1 o2,w'=(w.alloc o1).alloc o2:=by
 have hb:0≤k∧k≤3∧-1000000≤x∧x≤1000000∧-1000000≤y∧y≤1000000:=by simpa [triB] using h
 obtain ⟨_,_,b1,b2,b3,b4⟩:=hb
 clear h
 go_enter Tryz.func125,Tryz.ntmps125
 go_wp2
 exact bodyPost_ret (v:=.agg #[.int .i64 (2*x+1),.int .i64 (2*y+1)]) (by simp [results,Tryz.results125,go_sem]) rfl ⟨rfl,_,_,rfl⟩
theorem plus_any (a b c d:Int) (w:World) (h1 : -10000000≤a) (h2:a≤10000000) (h3 : -10000000≤b) (h4:b≤10000000) (h5 : -10000000≤c) (h6:c≤10000000) (h7 : -10000000≤d) (h8:d≤10000000) :
  Calls Tryz.prog 126 #[.agg #[.int .i64 a,.int .i64 b],.agg #[.int .i64 c,.int .i64 d]] w fun e w'=>e=.returned (.agg #[.int .i64 (a+c),.int .i64 (b+d)])∧∃ o1 o2 o3,w'=((w.alloc o1).alloc o2).alloc o3:=by
 go_enter Tryz.func126,Tryz.ntmps126
 go_wp2
 exact bodyPost_ret (v:=.agg #[.int .i64 (a+c),.int .i64 (b+d)]) (by simp [results,Tryz.results126,go_sem]) rfl ⟨rfl,_,_,_,rfl⟩
def Steps (w:World):Prop :=
 w.cell? ⟨0,0,none⟩=some (.int .i64 (-1))∧w.cell? ⟨0,1,none⟩=some (.int .i64 (-1))∧w.cell? ⟨0,2,none⟩=some (.int .i64 1)∧w.cell? ⟨0,3,none⟩=some (.int .i64 (-1)) ∧
 w.cell? ⟨0,4,none⟩=some (.int .i64 1)∧w.cell? ⟨0,5,none⟩=some (.int .i64 1)∧w.cell? ⟨0,6,none⟩=some (.int .i64 (-1))∧w.cell? ⟨0,7,none⟩=some (.int .i64 1)
theorem lt_of_cell {w:World} {a:Addr} {v:Value} (h:w.cell? a=some v):a.block<w.heap.size:=World.block_lt_of_cell? _ _ h
theorem cell_kept {w wx:World} {a:Addr} {v:Value} (hb:Below w.heap.size w wx) (h:w.cell? a=some v):wx.cell? a=some v:=(hb.cell (lt_of_cell h)).trans h
theorem Steps.kept {w wx:World} (hs:Steps w) (hb:Below w.heap.size w wx):Steps wx:=by
 obtain ⟨s0,s1,s2,s3,s4,s5,s6,s7⟩:=hs
 exact ⟨cell_kept hb s0,cell_kept hb s1,cell_kept hb s2,cell_kept hb s3,cell_kept hb s4,cell_kept hb s5,cell_kept hb s6,cell_kept hb s7⟩
def stX (k:Int):Int:=if k=1∨k=2 then 1 else -1
def stY (k:Int):Int:=if k=2∨k=3 then 1 else -1
def c1x (x k:Int):Int:=2*x+1+stX k
def c1y (y k:Int):Int:=2*y+1+stY k
def c2x (x k:Int):Int:=2*x+1+stX ((k+1) % 4)
def c2y (y k:Int):Int:=2*y+1+stY ((k+1) % 4)
set_option maxHeartbeats 1600000 in
theorem corners_0 (x y:Int) (w:World) (h:triB x y 0=true) (hs:Steps w) :
  Calls Tryz.prog 91 #[.agg #[.int .i64 x,.int .i64 y,.int .i64 0]] w fun e w'=>e=.returned (.agg #[.int .i64 (2*x+1),.int .i64 (2*y+1),.int .i64 (2*x+1 + -1),.int .i64 (2*y+1 + -1),.int .i64 (2*x+1+1),.int .i64 (2*y+1 + -1)])∧Below w.heap.size w w':=by
 have hb : -1000000≤x∧x≤1000000∧-1000000≤y∧y≤1000000:=by simpa [triB] using h
 obtain ⟨b1,b2,b3,b4⟩:=hb
 obtain ⟨s0,s1,s2,s3,s4,s5,s6,s7⟩:=hs
 have hz:0<w.heap.size:=lt_of_cell s0
 have hz':¬ w.heap.size=0:=by omega
 go_enter Tryz.func91,Tryz.ntmps91
 go_wp2_with (go_at_call 125;refine (middle_any _ _ _ _ h).mono ?_;rintro e w1 ⟨rfl,o1,o2,rfl⟩)
 go_region_held3 (fun w'=>w'.cell? ⟨w.heap.size+1+1+1+1,0,none⟩=some (.int .i64 (2*x+1))∧w'.cell? ⟨w.heap.size+1+1+1+1,1,none⟩=some (.int .i64 (2*y+1))∧w'.cell? ⟨w.heap.size,2,none⟩=some (.int .i64 0)
   ∧ w'.cell? ⟨0,0,none⟩=some (.int .i64 (-1))∧w'.cell? ⟨0,1,none⟩=some (.int .i64 (-1))∧w'.cell? ⟨0,2,none⟩=some (.int .i64 1)∧w'.cell? ⟨0,3,none⟩=some (.int .i64 (-1)))
  (simp [go_sem,World.cell?_alloc_past, *])
  (first | (go_at_call 126;refine (plus_any _ _ _ _ _ (by omega) (by omega) (by omega) (by omega) (by omega) (by omega) (by omega) (by omega)).mono ?_;rintro e w2 ⟨rfl,o3,o4,o5,rfl⟩) | (go_at_call 127;refine (turned_any _ _ _ (by omega) (by omega) (by omega) (by omega)).mono ?_;rintro e w2 ⟨rfl,rfl⟩))
 go_wp2
 refine bodyPost_ret (v:=.agg #[.int .i64 (2*x+1),.int .i64 (2*y+1),.int .i64 (2*x+1 + -1),.int .i64 (2*y+1 + -1),.int .i64 (2*x+1+1),.int .i64 (2*y+1 + -1)]) ?_ rfl ⟨rfl, ?_⟩
 ·simp [results,Tryz.results91,go_sem,World.cell?_alloc_past]
 ·repeat (first | exact Below.refl _ _ | refine Below.alloc ?_ (by simp;try omega) _ | refine Below.drew ?_)
set_option maxHeartbeats 1600000 in
theorem corners_1 (x y:Int) (w:World) (h:triB x y 1=true) (hs:Steps w) :
  Calls Tryz.prog 91 #[.agg #[.int .i64 x,.int .i64 y,.int .i64 1]] w fun e w'=>e=.returned (.agg #[.int .i64 (2*x+1),.int .i64 (2*y+1),.int .i64 (2*x+1+1),.int .i64 (2*y+1 + -1),.int .i64 (2*x+1+1),.int .i64 (2*y+1+1)])∧Below w.heap.size w w':=by
 have hb : -1000000≤x∧x≤1000000∧-1000000≤y∧y≤1000000:=by simpa [triB] using h
 obtain ⟨b1,b2,b3,b4⟩:=hb
 obtain ⟨s0,s1,s2,s3,s4,s5,s6,s7⟩:=hs
 have hz:0<w.heap.size:=lt_of_cell s0
 have hz':¬ w.heap.size=0:=by omega
 go_enter Tryz.func91,Tryz.ntmps91
 go_wp2_with (go_at_call 125;refine (middle_any _ _ _ _ h).mono ?_;rintro e w1 ⟨rfl,o1,o2,rfl⟩)
 go_region_held3 (fun w'=>w'.cell? ⟨w.heap.size+1+1+1+1,0,none⟩=some (.int .i64 (2*x+1))∧w'.cell? ⟨w.heap.size+1+1+1+1,1,none⟩=some (.int .i64 (2*y+1))∧w'.cell? ⟨w.heap.size,2,none⟩=some (.int .i64 1)
   ∧ w'.cell? ⟨0,2,none⟩=some (.int .i64 1)∧w'.cell? ⟨0,3,none⟩=some (.int .i64 (-1))∧w'.cell? ⟨0,4,none⟩=some (.int .i64 1)∧w'.cell? ⟨0,5,none⟩=some (.int .i64 1))
  (simp [go_sem,World.cell?_alloc_past, *])
  (first | (go_at_call 126;refine (plus_any _ _ _ _ _ (by omega) (by omega) (by omega) (by omega) (by omega) (by omega) (by omega) (by omega)).mono ?_;rintro e w2 ⟨rfl,o3,o4,o5,rfl⟩) | (go_at_call 127;refine (turned_any _ _ _ (by omega) (by omega) (by omega) (by omega)).mono ?_;rintro e w2 ⟨rfl,rfl⟩))
 go_wp2
 refine bodyPost_ret (v:=.agg #[.int .i64 (2*x+1),.int .i64 (2*y+1),.int .i64 (2*x+1+1),.int .i64 (2*y+1 + -1),.int .i64 (2*x+1+1),.int .i64 (2*y+1+1)]) ?_ rfl ⟨rfl, ?_⟩
 ·simp [results,Tryz.results91,go_sem,World.cell?_alloc_past]
 ·repeat (first | exact Below.refl _ _ | refine Below.alloc ?_ (by simp;try omega) _ | refine Below.drew ?_)
set_option maxHeartbeats 1600000 in
theorem corners_2 (x y:Int) (w:World) (h:triB x y 2=true) (hs:Steps w) :
  Calls Tryz.prog 91 #[.agg #[.int .i64 x,.int .i64 y,.int .i64 2]] w fun e w'=>e=.returned (.agg #[.int .i64 (2*x+1),.int .i64 (2*y+1),.int .i64 (2*x+1+1),.int .i64 (2*y+1+1),.int .i64 (2*x+1 + -1),.int .i64 (2*y+1+1)])∧Below w.heap.size w w':=by
 have hb : -1000000≤x∧x≤1000000∧-1000000≤y∧y≤1000000:=by simpa [triB] using h
 obtain ⟨b1,b2,b3,b4⟩:=hb
 obtain ⟨s0,s1,s2,s3,s4,s5,s6,s7⟩:=hs
 have hz:0<w.heap.size:=lt_of_cell s0
 have hz':¬ w.heap.size=0:=by omega
 go_enter Tryz.func91,Tryz.ntmps91
 go_wp2_with (go_at_call 125;refine (middle_any _ _ _ _ h).mono ?_;rintro e w1 ⟨rfl,o1,o2,rfl⟩)
 go_region_held3 (fun w'=>w'.cell? ⟨w.heap.size+1+1+1+1,0,none⟩=some (.int .i64 (2*x+1))∧w'.cell? ⟨w.heap.size+1+1+1+1,1,none⟩=some (.int .i64 (2*y+1))∧w'.cell? ⟨w.heap.size,2,none⟩=some (.int .i64 2)
   ∧ w'.cell? ⟨0,4,none⟩=some (.int .i64 1)∧w'.cell? ⟨0,5,none⟩=some (.int .i64 1)∧w'.cell? ⟨0,6,none⟩=some (.int .i64 (-1))∧w'.cell? ⟨0,7,none⟩=some (.int .i64 1))
  (simp [go_sem,World.cell?_alloc_past, *])
  (first | (go_at_call 126;refine (plus_any _ _ _ _ _ (by omega) (by omega) (by omega) (by omega) (by omega) (by omega) (by omega) (by omega)).mono ?_;rintro e w2 ⟨rfl,o3,o4,o5,rfl⟩) | (go_at_call 127;refine (turned_any _ _ _ (by omega) (by omega) (by omega) (by omega)).mono ?_;rintro e w2 ⟨rfl,rfl⟩))
 go_wp2
 refine bodyPost_ret (v:=.agg #[.int .i64 (2*x+1),.int .i64 (2*y+1),.int .i64 (2*x+1+1),.int .i64 (2*y+1+1),.int .i64 (2*x+1 + -1),.int .i64 (2*y+1+1)]) ?_ rfl ⟨rfl, ?_⟩
 ·simp [results,Tryz.results91,go_sem,World.cell?_alloc_past]
 ·repeat (first | exact Below.refl _ _ | refine Below.alloc ?_ (by simp;try omega) _ | refine Below.drew ?_)
set_option maxHeartbeats 1600000 in
theorem corners_3 (x y:Int) (w:World) (h:triB x y 3=true) (hs:Steps w) :
  Calls Tryz.prog 91 #[.agg #[.int .i64 x,.int .i64 y,.int .i64 3]] w fun e w'=>e=.returned (.agg #[.int .i64 (2*x+1),.int .i64 (2*y+1),.int .i64 (2*x+1 + -1),.int .i64 (2*y+1+1),.int .i64 (2*x+1 + -1),.int .i64 (2*y+1 + -1)])∧Below w.heap.size w w':=by
 have hb : -1000000≤x∧x≤1000000∧-1000000≤y∧y≤1000000:=by simpa [triB] using h
 obtain ⟨b1,b2,b3,b4⟩:=hb
 obtain ⟨s0,s1,s2,s3,s4,s5,s6,s7⟩:=hs
 have hz:0<w.heap.size:=lt_of_cell s0
 have hz':¬ w.heap.size=0:=by omega
 go_enter Tryz.func91,Tryz.ntmps91
 go_wp2_with (go_at_call 125;refine (middle_any _ _ _ _ h).mono ?_;rintro e w1 ⟨rfl,o1,o2,rfl⟩)
 go_region_held3 (fun w'=>w'.cell? ⟨w.heap.size+1+1+1+1,0,none⟩=some (.int .i64 (2*x+1))∧w'.cell? ⟨w.heap.size+1+1+1+1,1,none⟩=some (.int .i64 (2*y+1))∧w'.cell? ⟨w.heap.size,2,none⟩=some (.int .i64 3)
   ∧ w'.cell? ⟨0,6,none⟩=some (.int .i64 (-1))∧w'.cell? ⟨0,7,none⟩=some (.int .i64 1)∧w'.cell? ⟨0,0,none⟩=some (.int .i64 (-1))∧w'.cell? ⟨0,1,none⟩=some (.int .i64 (-1)))
  (simp [go_sem,World.cell?_alloc_past, *])
  (first | (go_at_call 126;refine (plus_any _ _ _ _ _ (by omega) (by omega) (by omega) (by omega) (by omega) (by omega) (by omega) (by omega)).mono ?_;rintro e w2 ⟨rfl,o3,o4,o5,rfl⟩) | (go_at_call 127;refine (turned_any _ _ _ (by omega) (by omega) (by omega) (by omega)).mono ?_;rintro e w2 ⟨rfl,rfl⟩))
 go_wp2
 refine bodyPost_ret (v:=.agg #[.int .i64 (2*x+1),.int .i64 (2*y+1),.int .i64 (2*x+1 + -1),.int .i64 (2*y+1+1),.int .i64 (2*x+1 + -1),.int .i64 (2*y+1 + -1)]) ?_ rfl ⟨rfl, ?_⟩
 ·simp [results,Tryz.results91,go_sem,World.cell?_alloc_past]
 ·repeat (first | exact Below.refl _ _ | refine Below.alloc ?_ (by simp;try omega) _ | refine Below.drew ?_)
theorem corners_any (x y k:Int) (w:World) (h:triB x y k=true) (hs:Steps w) :
  Calls Tryz.prog 91 #[.agg #[.int .i64 x,.int .i64 y,.int .i64 k]] w fun e w'=>e=.returned (.agg #[.int .i64 (2*x+1),.int .i64 (2*y+1),.int .i64 (c1x x k),.int .i64 (c1y y k),.int .i64 (c2x x k),.int .i64 (c2y y k)])∧Below w.heap.size w w':=by
 have hk:k=0∨k=1∨k=2∨k=3:=by have:=h;simp [triB] at this;omega
 rcases hk with rfl | rfl | rfl | rfl
 ·exact corners_0 x y w h hs
 ·exact corners_1 x y w h hs
 ·exact corners_2 x y w h hs
 ·exact corners_3 x y w h hs
open Go.RowKit
theorem bl_refl (w:World):Below w.heap.size w w:=Below.refl _ _
theorem bl_alloc {w v:World} {o:Obj} (h:Below w.heap.size w v):Below w.heap.size w (v.alloc o):=h.alloc h.size _
theorem bl_drew {w v:World} (h:Below w.heap.size w v):Below w.heap.size w v.drew:=h.drew
theorem bl_drewN {w v:World} {n:Nat} (h:Below w.heap.size w v):Below w.heap.size w (v.drewN n):=⟨h.os,h.tape,h.output,h.size,h.block⟩
theorem bl_via {w v u:World} (h:Below w.heap.size w v) (k:Below v.heap.size v u):Below w.heap.size w u:=h.trans (k.mono h.size)
theorem bl_set {w v:World} {p:Addr} {u:Value} (h:Below w.heap.size w v) (hp:w.heap.size≤p.block):Below w.heap.size w (v.setCell p u):=h.setCell hp _
def Mp (w:World) (g:Nat) (a b c d e f:Int):Prop :=
 w.cell? ⟨g,0,none⟩=some (.int .i64 a)∧w.cell? ⟨g,1,none⟩=some (.int .i64 b)∧w.cell? ⟨g,2,none⟩=some (.int .i64 c)∧w.cell? ⟨g,3,none⟩=some (.int .i64 d)∧w.cell? ⟨g,4,none⟩=some (.int .i64 e)∧w.cell? ⟨g,5,none⟩=some (.int .i64 f)
def Pt (w:World) (g:Nat) (x y:Int):Prop:=w.cell? ⟨g,0,none⟩=some (.int .i64 x)∧w.cell? ⟨g,1,none⟩=some (.int .i64 y)
def Tr (w:World) (g:Nat) (x y k:Int):Prop:=w.cell? ⟨g,0,none⟩=some (.int .i64 x)∧w.cell? ⟨g,1,none⟩=some (.int .i64 y)∧w.cell? ⟨g,2,none⟩=some (.int .i64 k)
def Fr (w:World) (g:Nat):Prop :=
 w.frozen? ⟨g,0,none⟩=false∧w.frozen? ⟨g,1,none⟩=false∧w.frozen? ⟨g,2,none⟩=false∧w.frozen? ⟨g,3,none⟩=false∧w.frozen? ⟨g,4,none⟩=false∧w.frozen? ⟨g,5,none⟩=false
theorem cl_kept {w wx:World} {a:Addr} {v:Value} (hb:Below w.heap.size w wx) (h:w.cell? a=some v):wx.cell? a=some v:=(hb.cell (World.block_lt_of_cell? _ _ h)).trans h
theorem Mp.kept {w wx:World} {g:Nat} {a b c d e f:Int} (h:Mp w g a b c d e f) (hb:Below w.heap.size w wx):Mp wx g a b c d e f:=by
 obtain ⟨h0,h1,h2,h3,h4,h5⟩:=h
 exact ⟨cl_kept hb h0,cl_kept hb h1,cl_kept hb h2,cl_kept hb h3,cl_kept hb h4,cl_kept hb h5⟩
theorem Tr.kept {w wx:World} {g:Nat} {a b c:Int} (h:Tr w g a b c) (hb:Below w.heap.size w wx):Tr wx g a b c:=⟨cl_kept hb h.1,cl_kept hb h.2.1,cl_kept hb h.2.2⟩
theorem Fr.kept {w wx:World} {g:Nat} (h:Fr w g) (hg:g<w.heap.size) (hb:Below w.heap.size w wx):Fr wx g:=by
 obtain ⟨h0,h1,h2,h3,h4,h5⟩:=h
 exact ⟨(hb.frozen (p:=⟨g,0,none⟩) hg).trans h0,(hb.frozen (p:=⟨g,1,none⟩) hg).trans h1,(hb.frozen (p:=⟨g,2,none⟩) hg).trans h2,(hb.frozen (p:=⟨g,3,none⟩) hg).trans h3,(hb.frozen (p:=⟨g,4,none⟩) hg).trans h4,(hb.frozen (p:=⟨g,5,none⟩) hg).trans h5⟩
theorem Mp.lt {w:World} {g:Nat} {a b c d e f:Int} (h:Mp w g a b c d e f):g<w.heap.size:=World.block_lt_of_cell? (w:=w) (a:=⟨g,0,none⟩) h.1
theorem Tr.lt {w:World} {g:Nat} {a b c:Int} (h:Tr w g a b c):g<w.heap.size:=World.block_lt_of_cell? (w:=w) (a:=⟨g,0,none⟩) h.1
theorem al_old {w:World} {o:Obj} {a:Addr} {v:Value} (h:w.cell? a=some v):(w.alloc o).cell? a=some v:=(World.cell?_alloc_lt _ _ _ (World.block_lt_of_cell? _ _ h)).trans h
theorem dr_old {w:World} {a:Addr} {v:Value} (h:w.cell? a=some v):w.drew.cell? a=some v:=h
open Go.RowKit
def Row (w:World) (a:Option Addr) (zs:List Int):Prop :=
 ∀ i (h:i<zs.length),∃ b off,a=some ⟨b,off,none⟩∧w.cell? ⟨b,off+i,none⟩=some (.int .i64 zs[i])
theorem Row.kept {w wx:World} {a:Option Addr} {zs:List Int} (h:Row w a zs) (hb:Below w.heap.size w wx):Row wx a zs:=fun i hi=>by
 obtain ⟨b,off,e,hc⟩:=h i hi
 exact ⟨b,off,e,cl_kept hb hc⟩
def maskB (zs:List Int):Bool:=zs.all fun z=>decide (0≤z∧z≤15)
def sideB (n:Int):Bool:=decide (1≤n∧n≤8)
theorem maySide_any (n:Int) (w:World) :
  Calls Tryz.prog 97 #[.int .i64 n] w fun e w'=>e=.returned (.bool (sideB n))∧w'=w:=by
 go_enter Tryz.func97,Tryz.ntmps97
 go_wp2
 all_goals
  go_ret
  exact ⟨ret_bool (by rw [Bool.eq_iff_iff];simp_all [sideB] <;> omega),rfl⟩
theorem mask_at {zs:List Int} (h:maskB zs=false) (hp:∀ i (hi:i<zs.length),0≤zs[i]∧zs[i]≤15):False:=by
 have:maskB zs=true:=by
  simp only [maskB,List.all_eq_true,decide_eq_true_eq]
  intro z hz
  obtain ⟨i,hi,rfl⟩:=List.getElem_of_mem hz
  exact hp i hi
 rw [this] at h
 exact Bool.noConfusion h
set_option maxHeartbeats 1600000 in
theorem mayMask_len (W H:Int) (a:Option Addr) (cap:Nat) (zs:List Int) (c:Value) (w:World) (hW:sideB W=true) (hH:sideB H=true) (hl:¬ (zs.length:Int)=W*H) :
  Calls Tryz.prog 98 #[.agg #[.int .i64 W,.int .i64 H,.slice a zs.length cap,c]] w fun e w'=>e=.returned (.bool false)∧∃ o,w'=w.alloc o:=by
 have b1:1≤W∧W≤8:=by simpa [sideB] using hW
 have b2:1≤H∧H≤8:=by simpa [sideB] using hH
 have hm:0≤W*H∧W*H≤64:=by
  have h1:W=1∨W=2∨W=3∨W=4∨W=5∨W=6∨W=7∨W=8:=by omega
  rcases h1 with rfl | rfl | rfl | rfl | rfl | rfl | rfl | rfl <;> omega
 go_enter Tryz.func98,Tryz.ntmps98
 go_wp2
 go_ret
 exact ⟨rfl,_,rfl⟩
set_option maxHeartbeats 1600000 in
theorem mayMask_any (W H:Int) (a:Option Addr) (cap:Nat) (zs:List Int) (c:Value) (w:World) (hW:sideB W=true) (hH:sideB H=true) (hr:Row w a zs) (hl:(zs.length:Int)=W*H) :
  Calls Tryz.prog 98 #[.agg #[.int .i64 W,.int .i64 H,.slice a zs.length cap,c]] w fun e w'=>e=.returned (.bool (maskB zs))∧∃ o,w'=w.alloc o:=by
 have b1:1≤W∧W≤8:=by simpa [sideB] using hW
 have b2:1≤H∧H≤8:=by simpa [sideB] using hH
 have hm:0≤W*H∧W*H≤64:=by
  have h1:W=1∨W=2∨W=3∨W=4∨W=5∨W=6∨W=7∨W=8:=by omega
  rcases h1 with rfl | rfl | rfl | rfl | rfl | rfl | rfl | rfl <;> omega
 have HR:Hid (Row w a zs):=hr
 clear hr
 go_enter Tryz.func98,Tryz.ntmps98
 go_wp2
 go_loopg [17] zs.length (fun g s17 wx=>∃ n:Nat,n≤zs.length∧g=zs.length - n∧s17=.int .i64 n∧(∀ i (hi:i<zs.length),i<n→0≤zs[i]∧zs[i]≤15)∧wx=w.alloc (.cells #[.int .i64 W,.int .i64 H,.slice a zs.length cap,c] 25))
 case atStart=>exact ⟨0,by omega,rfl,rfl,fun i _ h=>by omega,rfl⟩
 case round =>
  obtain ⟨n,hn,rfl,rfl,hp,rfl⟩:=hrel
  have HP:Hid (∀ i (hi:i<zs.length),i<n→0≤zs[i]∧zs[i]≤15):=hp
  clear hp
  by_cases h1:n<zs.length
  ·obtain ⟨b,off,rfl,hc⟩:=HR.out n h1
   have i1:(n:Int)<(zs.length:Int):=by omega
   have i0:(0:Int)≤(n:Int):=by omega
   have u1:(w.alloc (.cells #[.int .i64 W,.int .i64 H,.slice (some ⟨b,off,none⟩) zs.length cap,c] 25)).cell? ⟨b,off+n,none⟩=some (.int .i64 zs[n]):=al_old hc
   obtain ⟨z,hz⟩:∃ z,z=zs[n]:=⟨_,rfl⟩
   rw [← hz] at u1
   clear hc
   by_cases g1:z<0
   ·have HM:Hid (maskB zs=false):=by
     show maskB zs=false
     simp only [maskB,List.all_eq_false,decide_eq_true_eq]
     exact ⟨zs[n],List.getElem_mem h1,by omega⟩
    go_wp2
    go_ret
    exact ⟨by rw [HM.out];rfl,_,rfl⟩
   ·by_cases g2:15<z
    ·have HM:Hid (maskB zs=false):=by
      show maskB zs=false
      simp only [maskB,List.all_eq_false,decide_eq_true_eq]
      exact ⟨zs[n],List.getElem_mem h1,by omega⟩
     go_wp2
     go_ret
     exact ⟨by rw [HM.out];rfl,_,rfl⟩
    ·go_wp2
     go_roundg (zs.length - (n+1))
     case measure=>omega
     case rel =>
      refine ⟨n+1,by omega,rfl,by go_num,fun i hi h=>?_,rfl⟩
      by_cases e:i=n
      ·subst e;omega
      ·exact HP.out i hi (by omega)
  ·have i1:¬ (n:Int)<(zs.length:Int):=by omega
   have HM:Hid (maskB zs=true):=by
    show maskB zs=true
    by_cases h:maskB zs=true
    ·exact h
    ·exact (mask_at (by simpa using h) (fun i hi=>HP.out i hi (by omega))).elim
   go_wp2
   go_ret
   exact ⟨by rw [HM.out];rfl,_,rfl⟩
end Go.Proofs.YtgpjaecgkkgehaaGreatDoor
namespace Go.Proofs.YtgpjaecgkkgehaaGreatDoor
open Go.ChangeShapes Go.WideShapes Go.ChangeAt Go.WideMaps Go.WideElems Go.RowKit Go.Joins
theorem Tryz.own:ownKnob Tryz.prog.godebug=none:=by kernel_rfl
theorem gSteps:Tryz.prog.globalNamed "pleat/grid.steps" = some 0:=by kernel_rfl
theorem tSteps:(Tryz.prog.globals[0]?).map (·.type)=some 189:=by kernel_rfl
theorem c3:Tryz.prog.cellsOf 3=1:=by kernel_rfl
theorem c25:Tryz.prog.cellsOf 79=2:=by kernel_rfl
theorem c27:Tryz.prog.cellsOf 81=4:=by kernel_rfl
theorem c70:Tryz.prog.cellsOf 22=1:=by kernel_rfl
theorem c72:Tryz.prog.cellsOf 23=1:=by kernel_rfl
theorem c74:Tryz.prog.cellsOf 25=4:=by kernel_rfl
theorem c110:Tryz.prog.cellsOf 83=5:=by kernel_rfl
theorem c119:Tryz.prog.cellsOf 189=8:=by kernel_rfl
theorem point_of {H:Type} {enc:TypeId×Value→H} {W:World} {base:Nat} {sp:Nat→Bool} {hd:Bool} {m:Nat} {u v:Value} {d0 d1:Int} {ps:List MemPlace}
  (h:DataW.trod enc Tryz.prog W base sp hd m 79 [u,v]=some (.agg [.lit (.int .i64 d0),.lit (.int .i64 d1)],ps)):u=.int .i64 d0∧v=.int .i64 d1:=by
 obtain ⟨y0,y1,n,hx,_,h0,h1⟩:=trod_struct2 Tryz.underlying79 h
 simp only [Prod.mk.injEq,DataW.agg.injEq,List.cons.injEq,and_true] at hx
 obtain ⟨⟨e0,e1⟩,_⟩:=hx
 simp [c3] at h0 h1
 obtain ⟨a,ha,hy0,_⟩:=DataW.trod_int Tryz.underlying3 h0
 obtain ⟨b,hb,hy1,_⟩:=DataW.trod_int Tryz.underlying3 h1
 subst hy0 hy1
 simp at e0 e1 ha hb
 subst e0 e1 ha hb
 exact ⟨rfl,rfl⟩
set_option maxRecDepth 100000 in
theorem steps_of {W:World} (h:laidMetH Tryz.prog [("pleat/grid.steps",Rows.laid_pleat_grid_steps)] W):Steps W:=by
 rw [MakeChecks.laidMetH_plain _ _ _ (by kernel_rfl)] at h
 obtain ⟨ps,⟨g0,t0,cs0,f0,p0,q0,hg0,ht0,hv0,hd0,_,_⟩,_,_⟩:=h
 obtain rfl:=Option.some.inj (gSteps.symm.trans hg0)
 obtain rfl:=Option.some.inj (tSteps.symm.trans ht0)
 have hc:=World.var?_cell hg0 hv0
 obtain ⟨xs,m1,rfl,hx1,hlen,hn4,hel⟩:=DataW.trod_array Tryz.underlying189 hd0
 rw [c119] at hlen
 simp only [Prod.mk.injEq,Rows.laid_pleat_grid_steps,DataW.agg.injEq] at hx1
 obtain ⟨hx1,_⟩:=hx1
 obtain ⟨l⟩:=cs0
 match xs,hn4 with
 | [x0,x1,x2,x3],_ =>
  match l,hlen with
  | [a0,a1,a2,a3,a4,a5,a6,a7],_ =>
   simp only [List.map_cons,List.map_nil,List.cons.injEq,and_true] at hx1
   obtain ⟨e0,e1,e2,e3⟩:=hx1
   have k0:=hel 0 (by decide)
   have k1:=hel 1 (by decide)
   have k2:=hel 2 (by decide)
   have k3:=hel 3 (by decide)
   obtain ⟨x0a,x0b⟩:=x0
   obtain ⟨x1a,x1b⟩:=x1
   obtain ⟨x2a,x2b⟩:=x2
   obtain ⟨x3a,x3b⟩:=x3
   simp at e0 e1 e2 e3
   subst e0 e1 e2 e3
   simp [c25] at k0 k1 k2 k3
   obtain ⟨r0,r1⟩:=point_of k0
   obtain ⟨r2,r3⟩:=point_of k1
   obtain ⟨r4,r5⟩:=point_of k2
   obtain ⟨r6,r7⟩:=point_of k3
   subst r0 r1 r2 r3 r4 r5 r6 r7
   exact ⟨by simpa using hc 0,by simpa using hc 1,by simpa using hc 2,by simpa using hc 3,by simpa using hc 4,by simpa using hc 5,by simpa using hc 6,by simpa using hc 7⟩
theorem five {cs:List Value} (h:cs.length=5):∃ a0 a1 a2 a3 a4,cs=[a0,a1,a2,a3,a4]:=by
 match cs,h with
 | [a0,a1,a2,a3,a4],_=>exact ⟨a0,a1,a2,a3,a4,rfl⟩
set_option maxRecDepth 100000 in
theorem crease_of {H:Type} {enc:TypeId×Value→H} {W:World} {base:Nat} {sp:Nat→Bool} {hd:Bool} {m:Nat} {cs:List Value} {y:DataW H×List MemPlace}
  (h:DataW.trod enc Tryz.prog W base sp hd m 83 cs=some y):∃ n0 n1 n2 n3 n4:Int,cs=[.int .i64 n0,.int .i64 n1,.int .i64 n2,.int .i64 n3,.int .i64 n4]:=by
 obtain ⟨y0,y1,n,_,hl,h0,h1⟩:=trod_struct2 Tryz.underlying83 h
 rw [c110] at hl
 obtain ⟨a0,a1,a2,a3,a4,rfl⟩:=five hl
 ·simp [c27,c3] at h0 h1
  obtain ⟨e4,r4,_,_⟩:=DataW.trod_int Tryz.underlying3 h1
  obtain ⟨z0,z1,_,_,_,k0,k1⟩:=trod_struct2 Tryz.underlying81 h0
  simp [c25] at k0 k1
  obtain ⟨_,_,_,_,_,l0,l1⟩:=trod_struct2 Tryz.underlying79 k0
  obtain ⟨_,_,_,_,_,l2,l3⟩:=trod_struct2 Tryz.underlying79 k1
  simp [c3] at l0 l1 l2 l3
  obtain ⟨e0,r0,_,_⟩:=DataW.trod_int Tryz.underlying3 l0
  obtain ⟨e1,r1,_,_⟩:=DataW.trod_int Tryz.underlying3 l1
  obtain ⟨e2,r2,_,_⟩:=DataW.trod_int Tryz.underlying3 l2
  obtain ⟨e3,r3,_,_⟩:=DataW.trod_int Tryz.underlying3 l3
  simp at r0 r1 r2 r3 r4
  exact ⟨e0,e1,e2,e3,e4,by rw [r0,r1,r2,r3,r4]⟩
theorem creases_of {H:Type} {enc:TypeId×Value→H} {W:World} {base:Nat} {sp:Nat→Bool} {hd:Bool} {m:Nat} {cs:List Value} {y:DataW H×List MemPlace}
  (h:DataW.trod enc Tryz.prog W base sp hd m 23 cs=some y):∃ (c:Option Addr) (n cap:Nat) (ks:List Int),cs=[.slice c n cap]∧ks.length=n*5∧Row W c ks ∧
   (n=0∨∃ es rs:List (DataW H),es.length=n∧y.1=.slice es rs):=by
 rcases DataW.trod_slice Tryz.underlying23 h with ⟨rfl,_⟩ | ⟨a,len,cap,elems,rest,n,_,rfl,rfl,hb,hl,hm,hlen,hel,hsp,hns⟩
 ·exact ⟨none,0,0,[],rfl,rfl,fun i hi=>absurd hi (by simp),.inl rfl⟩
 rw [c110] at hel
 have each:∀ i,i<len→∃ n0 n1 n2 n3 n4:Int,∀ j,j<5→W.cell? ((a.add (i*5)).add j)=[Value.int .i64 n0,.int .i64 n1,.int .i64 n2,.int .i64 n3,.int .i64 n4][j]?:=by
  intro i hi
  have e:=hel i hi
  rw [List.getElem?_eq_getElem (by omega),Option.bind_eq_some_iff] at e
  obtain ⟨cs',hcs,hy'⟩:=e
  obtain ⟨n0,n1,n2,n3,n4,rfl⟩:=crease_of hy'
  exact ⟨n0,n1,n2,n3,n4,(World.cells?_some hcs).2.2⟩
 have num:∀ i,i<len*5→∃ z:Int,W.cell? ((a.add (i / 5*5)).add (i % 5))=some (.int .i64 z):=by
  intro i hi
  obtain ⟨n0,n1,n2,n3,n4,hc⟩:=each (i / 5) (by omega)
  have hj:i % 5<5:=Nat.mod_lt _ (by omega)
  have:=hc (i % 5) hj
  generalize i % 5=j at this hj ⊢
  match j,hj with
  | 0,_=>exact ⟨n0,this⟩
  | 1,_=>exact ⟨n1,this⟩
  | 2,_=>exact ⟨n2,this⟩
  | 3,_=>exact ⟨n3,this⟩
  | 4,_=>exact ⟨n4,this⟩
 by_cases h0:len=0
 ·subst h0
  exact ⟨_,0,cap,[],rfl,rfl,fun i hi=>absurd hi (by simp),.inl rfl⟩
 obtain ⟨b,off,rfl⟩:∃ b off,a=⟨b,off,none⟩:=by
  obtain ⟨b,off,spot⟩:=a
  obtain ⟨z,hz⟩:=num 0 (by omega)
  have hspot:spot=none:=by simpa [Addr.add] using World.cell?_spot hz
  subst hspot
  exact ⟨b,off,rfl⟩
 have num':∀ i,i<len*5→∃ z:Int,W.cell? ⟨b,off+i,none⟩=some (.int .i64 z):=by
  intro i hi
  obtain ⟨z,hz⟩:=num i hi
  rw [add_plain,add_plain,Nat.add_assoc,Nat.div_add_mod' i 5] at hz
  exact ⟨z,hz⟩
 refine ⟨_,len,cap,(List.range (len*5)).map fun i=>match W.cell? ⟨b,off+i,none⟩ with | some (.int _ z)=>z | _=>0,rfl,by simp, ?_,.inr ⟨elems.map (·.1),rest.map (·.1),by simpa using hlen,rfl⟩⟩
 intro i hi
 simp only [List.length_map,List.length_range] at hi
 obtain ⟨z,hz⟩:=num' i hi
 refine ⟨b,off,rfl, ?_⟩
 simp [hz]
end Go.Proofs.YtgpjaecgkkgehaaGreatDoor
