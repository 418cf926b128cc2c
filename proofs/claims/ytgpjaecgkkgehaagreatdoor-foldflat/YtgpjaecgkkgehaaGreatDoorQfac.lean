/- A part of the proof of foldFlat_holds. -/
import Derived.Test.YtgpjaecgkkgehaaGreatDoorQfab
import Derived.Test.YtgpjaecgkkgehaaGreatDoorQfaa
import Derived.Deep.DeepCutAuto
import Derived.WideKeyEntry
import Derived.WideKeyRuns
namespace Go.Proofs.YtgpjaecgkkgehaaGreatDoor
open Go.RowKit
attribute [local go_sem ↓] Go.wp_at_zero Go.wp_at_succ
set_option maxRecDepth 100000 in
set_option maxHeartbeats 3200000 in
theorem edges_any (x y k:Int) (w:World) (h:triB x y k=true) (hs:Steps w) :
  Calls Tryz.prog 204 #[.agg #[.int .i64 x,.int .i64 y,.int .i64 k]] w fun r w'=>r=.returned (.agg #[
   .int .i64 (eA (2*x+1) (2*y+1) (c1x x k) (c1y y k)),.int .i64 (eB (2*x+1) (2*y+1) (c1x x k) (c1y y k)),.int .i64 (eC (2*x+1) (2*y+1) (c1x x k) (c1y y k)),.int .i64 (eD (2*x+1) (2*y+1) (c1x x k) (c1y y k)),
   .int .i64 (eA (c1x x k) (c1y y k) (c2x x k) (c2y y k)),.int .i64 (eB (c1x x k) (c1y y k) (c2x x k) (c2y y k)),.int .i64 (eC (c1x x k) (c1y y k) (c2x x k) (c2y y k)),.int .i64 (eD (c1x x k) (c1y y k) (c2x x k) (c2y y k)),
   .int .i64 (eA (c2x x k) (c2y y k) (2*x+1) (2*y+1)),.int .i64 (eB (c2x x k) (c2y y k) (2*x+1) (2*y+1)),.int .i64 (eC (c2x x k) (c2y y k) (2*x+1) (2*y+1)),.int .i64 (eD (c2x x k) (c2y y k) (2*x+1) (2*y+1))])∧Below w.heap.size w w':=by
 have HS:Hid (Steps w):=hs
 clear hs
 go_enter Tryz.func204,Tryz.ntmps204
 go_wp2_with (go_at_call 91;refine (corners_any _ _ _ _ h (HS.out.kept (bl_alloc (bl_alloc (bl_refl _))))).mono ?_;rintro r w1 ⟨rfl,hb⟩;have r0:w1.cell? ⟨w.heap.size+1,0,none⟩=some (.int .i64 0):=cell_kept hb (by simp [go_sem]);have f0:w1.frozen? ⟨w.heap.size+1,0,none⟩=false:=(hb.frozen (p:=⟨w.heap.size+1,0,none⟩) (by simp)).trans (by simp [go_sem]);have r1:w1.cell? ⟨w.heap.size+1,1,none⟩=some (.int .i64 0):=cell_kept hb (by simp [go_sem]);have f1:w1.frozen? ⟨w.heap.size+1,1,none⟩=false:=(hb.frozen (p:=⟨w.heap.size+1,1,none⟩) (by simp)).trans (by simp [go_sem]);have r2:w1.cell? ⟨w.heap.size+1,2,none⟩=some (.int .i64 0):=cell_kept hb (by simp [go_sem]);have f2:w1.frozen? ⟨w.heap.size+1,2,none⟩=false:=(hb.frozen (p:=⟨w.heap.size+1,2,none⟩) (by simp)).trans (by simp [go_sem]);have r3:w1.cell? ⟨w.heap.size+1,3,none⟩=some (.int .i64 0):=cell_kept hb (by simp [go_sem]);have f3:w1.frozen? ⟨w.heap.size+1,3,none⟩=false:=(hb.frozen (p:=⟨w.heap.size+1,3,none⟩) (by simp)).trans (by simp [go_sem]);have r4:w1.cell? ⟨w.heap.size+1,4,none⟩=some (.int .i64 0):=cell_kept hb (by simp [go_sem]);have f4:w1.frozen? ⟨w.heap.size+1,4,none⟩=false:=(hb.frozen (p:=⟨w.heap.size+1,4,none⟩) (by simp)).trans (by simp [go_sem]);have r5:w1.cell? ⟨w.heap.size+1,5,none⟩=some (.int .i64 0):=cell_kept hb (by simp [go_sem]);have f5:w1.frozen? ⟨w.heap.size+1,5,none⟩=false:=(hb.frozen (p:=⟨w.heap.size+1,5,none⟩) (by simp)).trans (by simp [go_sem]);have r6:w1.cell? ⟨w.heap.size+1,6,none⟩=some (.int .i64 0):=cell_kept hb (by simp [go_sem]);have f6:w1.frozen? ⟨w.heap.size+1,6,none⟩=false:=(hb.frozen (p:=⟨w.heap.size+1,6,none⟩) (by simp)).trans (by simp [go_sem]);have r7:w1.cell? ⟨w.heap.size+1,7,none⟩=some (.int .i64 0):=cell_kept hb (by simp [go_sem]);have f7:w1.frozen? ⟨w.heap.size+1,7,none⟩=false:=(hb.frozen (p:=⟨w.heap.size+1,7,none⟩) (by simp)).trans (by simp [go_sem]);have r8:w1.cell? ⟨w.heap.size+1,8,none⟩=some (.int .i64 0):=cell_kept hb (by simp [go_sem]);have f8:w1.frozen? ⟨w.heap.size+1,8,none⟩=false:=(hb.frozen (p:=⟨w.heap.size+1,8,none⟩) (by simp)).trans (by simp [go_sem]);have r9:w1.cell? ⟨w.heap.size+1,9,none⟩=some (.int .i64 0):=cell_kept hb (by simp [go_sem]);have f9:w1.frozen? ⟨w.heap.size+1,9,none⟩=false:=(hb.frozen (p:=⟨w.heap.size+1,9,none⟩) (by simp)).trans (by simp [go_sem]);have r10:w1.cell? ⟨w.heap.size+1,10,none⟩=some (.int .i64 0):=cell_kept hb (by simp [go_sem]);have f10:w1.frozen? ⟨w.heap.size+1,10,none⟩=false:=(hb.frozen (p:=⟨w.heap.size+1,10,none⟩) (by simp)).trans (by simp [go_sem]);have r11:w1.cell? ⟨w.heap.size+1,11,none⟩=some (.int .i64 0):=cell_kept hb (by simp [go_sem]);have f11:w1.frozen? ⟨w.heap.size+1,11,none⟩=false:=(hb.frozen (p:=⟨w.heap.size+1,11,none⟩) (by simp)).trans (by simp [go_sem]);have z0:w.heap.size+1<w1.heap.size:=World.block_lt_of_cell? (w:=w1) (a:=⟨w.heap.size+1,0,none⟩) r0;have z1:w.heap.size+1<w1.heap.size+1:=(by omega);have z2:w.heap.size+1<w1.heap.size+1+1:=(by omega);have z3:w.heap.size+1<w1.heap.size+1+1+1:=(by omega);have z4:w.heap.size+1<w1.heap.size+1+1+1+1:=(by omega);have z5:w.heap.size+1<w1.heap.size+1+1+1+1+1:=(by omega);have z6:w.heap.size+1<w1.heap.size+1+1+1+1+1+1:=(by omega);have z7:w.heap.size+1<w1.heap.size+1+1+1+1+1+1+1:=(by omega);have z8:w.heap.size+1<w1.heap.size+1+1+1+1+1+1+1+1:=(by omega);have z9:w.heap.size+1<w1.heap.size+1+1+1+1+1+1+1+1+1:=(by omega);have z10:w.heap.size+1<w1.heap.size+1+1+1+1+1+1+1+1+1+1:=(by omega);have z11:w.heap.size+1<w1.heap.size+1+1+1+1+1+1+1+1+1+1+1:=(by omega);have HB:Hid (Below w.heap.size w w1):=bl_via (bl_alloc (bl_alloc (bl_refl _))) hb;clear hb)
 go_region_held3 (fun w'=>w'.cell? ⟨w1.heap.size,0,none⟩=some (.int .i64 (2*x+1))∧w'.cell? ⟨w1.heap.size,1,none⟩=some (.int .i64 (2*y+1))∧w'.cell? ⟨w1.heap.size,2,none⟩=some (.int .i64 (c1x x k))∧w'.cell? ⟨w1.heap.size,3,none⟩=some (.int .i64 (c1y y k))∧w'.cell? ⟨w1.heap.size,4,none⟩=some (.int .i64 (c2x x k))∧w'.cell? ⟨w1.heap.size,5,none⟩=some (.int .i64 (c2y y k)))
  ((refine ⟨?_, ?_, ?_, ?_, ?_, ?_⟩ <;> (first | (simp [go_sem];done) | (simp [go_sem,World.cell?_alloc_past];done) | (repeat' (first | (with_reducible refine set_far ?_ ?_) | (dsimp only;omega) | (simp [go_sem,World.cell?_alloc_past];done))))))
  (first | (go_at_call 215;refine (edge_num _ _ _ _ _).mono ?_;rintro r w2 ⟨rfl,o3,o4,o5,rfl⟩))
 go_wp2
 refine bodyPost_ret (v:=.agg #[ .int .i64 (eA (2*x+1) (2*y+1) (c1x x k) (c1y y k)),.int .i64 (eB (2*x+1) (2*y+1) (c1x x k) (c1y y k)),.int .i64 (eC (2*x+1) (2*y+1) (c1x x k) (c1y y k)),.int .i64 (eD (2*x+1) (2*y+1) (c1x x k) (c1y y k)),.int .i64 (eA (c1x x k) (c1y y k) (c2x x k) (c2y y k)),.int .i64 (eB (c1x x k) (c1y y k) (c2x x k) (c2y y k)),.int .i64 (eC (c1x x k) (c1y y k) (c2x x k) (c2y y k)),.int .i64 (eD (c1x x k) (c1y y k) (c2x x k) (c2y y k)),.int .i64 (eA (c2x x k) (c2y y k) (2*x+1) (2*y+1)),.int .i64 (eB (c2x x k) (c2y y k) (2*x+1) (2*y+1)),.int .i64 (eC (c2x x k) (c2y y k) (2*x+1) (2*y+1)),.int .i64 (eD (c2x x k) (c2y y k) (2*x+1) (2*y+1))]) ?_ rfl ⟨rfl, ?_⟩
 ·simp [results,Tryz.results204,go_sem,World.cell?_alloc_past, *]
 ·with_reducible repeat' (first | exact HB.out | refine bl_set ?_ ?_ | refine bl_alloc ?_ | refine bl_drew ?_)
  all_goals (dsimp only;omega)
open Go.RowKit
attribute [local go_sem ↓] Go.wp_at_zero Go.wp_at_succ
def dot (p q x y:Int):Int:=p*x+q*y
theorem mul_bd {u x M:Int} (h1 : -1≤u) (h2:u≤1) (h3 : -M≤x) (h4:x≤M) : -M≤u*x∧u*x≤M:=by
 have hu:u=-1∨u=0∨u=1:=by omega
 rcases hu with rfl | rfl | rfl <;> omega
theorem dot_bd {p q x y M:Int} (h1 : -1≤p) (h2:p≤1) (h3 : -1≤q) (h4:q≤1) (h5 : -M≤x) (h6:x≤M) (h7 : -M≤y) (h8:y≤M) : -(2*M)≤dot p q x y∧dot p q x y≤2*M:=by
 have a:=mul_bd h1 h2 h5 h6
 have b:=mul_bd h3 h4 h7 h8
 unfold dot;omega
def Sm (a b c d:Int):Prop:=(-1≤a∧a≤1)∧(-1≤b∧b≤1)∧(-1≤c∧c≤1)∧(-1≤d∧d≤1)
theorem turn_any (a b c d e f x y:Int) (w:World) (hs:Sm a b c d) (h1 : -4000000≤x) (h2:x≤4000000) (h3 : -4000000≤y) (h4:y≤4000000) :
  Calls Tryz.prog 160 #[.agg #[.int .i64 a,.int .i64 b,.int .i64 c,.int .i64 d,.int .i64 e,.int .i64 f],.agg #[.int .i64 x,.int .i64 y]] w fun r w'=>r=.returned (.agg #[.int .i64 (dot a b x y),.int .i64 (dot c d x y)])∧∃ o1 o2 o3,w'=((w.alloc o1).alloc o2).alloc o3:=by
 obtain ⟨⟨a1,a2⟩,⟨b1,b2⟩,⟨c1,c2⟩,⟨d1,d2⟩⟩:=hs
 obtain ⟨p1,p2⟩:=mul_bd a1 a2 h1 h2
 obtain ⟨p3,p4⟩:=mul_bd b1 b2 h3 h4
 obtain ⟨p5,p6⟩:=mul_bd c1 c2 h1 h2
 obtain ⟨p7,p8⟩:=mul_bd d1 d2 h3 h4
 go_enter Tryz.func160,Tryz.ntmps160
 go_wp2
 exact bodyPost_ret (v:=.agg #[.int .i64 (dot a b x y),.int .i64 (dot c d x y)]) (by simp [results,Tryz.results160,go_sem,dot]) rfl ⟨rfl,_,_,_,rfl⟩
theorem pointOf_any (a b c d e f x y:Int) (w:World) (hs:Sm a b c d) (he : -1000000≤e∧e≤1000000) (hf : -1000000≤f∧f≤1000000) (h1 : -4000000≤x) (h2:x≤4000000) (h3 : -4000000≤y) (h4:y≤4000000) :
  Calls Tryz.prog 80 #[.agg #[.int .i64 a,.int .i64 b,.int .i64 c,.int .i64 d,.int .i64 e,.int .i64 f],.agg #[.int .i64 x,.int .i64 y]] w fun r w'=>r=.returned (.agg #[.int .i64 (dot a b x y+e),.int .i64 (dot c d x y+f)])∧∃ o1 o2 o3,w'=((w.alloc o1).alloc o2).alloc o3:=by
 obtain ⟨⟨a1,a2⟩,⟨b1,b2⟩,⟨c1,c2⟩,⟨d1,d2⟩⟩:=hs
 obtain ⟨p1,p2⟩:=mul_bd a1 a2 h1 h2
 obtain ⟨p3,p4⟩:=mul_bd b1 b2 h3 h4
 obtain ⟨p5,p6⟩:=mul_bd c1 c2 h1 h2
 obtain ⟨p7,p8⟩:=mul_bd d1 d2 h3 h4
 obtain ⟨e1,e2⟩:=he
 obtain ⟨f1,f2⟩:=hf
 go_enter Tryz.func80,Tryz.ntmps80
 go_wp2
 exact bodyPost_ret (v:=.agg #[.int .i64 (dot a b x y+e),.int .i64 (dot c d x y+f)]) (by simp [results,Tryz.results80,go_sem,dot]) rfl ⟨rfl,_,_,_,rfl⟩
set_option maxHeartbeats 1600000 in
theorem image_any (a b c d e f x y:Int) (w:World) (hs:Sm a b c d) (he : -1000000≤e∧e≤1000000) (hf : -1000000≤f∧f≤1000000) (h1 : -4000000≤x) (h2:x≤4000000) (h3 : -4000000≤y) (h4:y≤4000000) :
  Calls Tryz.prog 158 #[.agg #[.int .i64 a,.int .i64 b,.int .i64 c,.int .i64 d,.int .i64 e,.int .i64 f],.agg #[.int .i64 x,.int .i64 y]] w fun r w'=>r=.returned (.agg #[.int .i64 (dot a b x y+e),.int .i64 (dot c d x y+f)])∧∃ o1 o2 o3 o4 o5 o6 o7 o8 o9,w'=(((((((((w.alloc o1).alloc o2).alloc o3).alloc o4).alloc o5).alloc o6).alloc o7).alloc o8).alloc o9).drew:=by
 have hd1:=dot_bd hs.1.1 hs.1.2 hs.2.1.1 hs.2.1.2 h1 h2 h3 h4
 have hd2:=dot_bd hs.2.2.1.1 hs.2.2.1.2 hs.2.2.2.1 hs.2.2.2.2 h1 h2 h3 h4
 have HS:Hid (Sm a b c d):=hs
 clear hs
 go_enter Tryz.func158,Tryz.ntmps158
 go_wp2
 go_region_held3 (fun w'=>(w'.cell? ⟨w.heap.size,0,none⟩=some (.int .i64 a)∧w'.cell? ⟨w.heap.size,1,none⟩=some (.int .i64 b)∧w'.cell? ⟨w.heap.size,2,none⟩=some (.int .i64 c)∧w'.cell? ⟨w.heap.size,3,none⟩=some (.int .i64 d)∧w'.cell? ⟨w.heap.size,4,none⟩=some (.int .i64 e)∧w'.cell? ⟨w.heap.size,5,none⟩=some (.int .i64 f))
   ∧ w'.cell? ⟨w.heap.size+1,0,none⟩=some (.int .i64 x)∧w'.cell? ⟨w.heap.size+1,1,none⟩=some (.int .i64 y))
  (simp [go_sem,World.cell?_alloc_past])
  (first | (go_at_call 160;refine (turn_any _ _ _ _ _ _ _ _ _ HS.out (by omega) (by omega) (by omega) (by omega)).mono ?_;rintro e w2 ⟨rfl,o3,o4,o5,rfl⟩) | (go_at_call 126;refine (plus_any _ _ _ _ _ (by omega) (by omega) (by omega) (by omega) (by omega) (by omega) (by omega) (by omega)).mono ?_;rintro e w2 ⟨rfl,o6,o7,o8,rfl⟩))
 go_wp2
 exact bodyPost_ret (v:=.agg #[.int .i64 (dot a b x y+e),.int .i64 (dot c d x y+f)]) (by simp [results,Tryz.results158,go_sem,World.cell?_alloc_past]) rfl ⟨rfl,_,_,_,_,_,_,_,_,_,rfl⟩
open Go.RowKit
attribute [local go_sem ↓] Go.wp_at_zero Go.wp_at_succ
def outX (k:Int):Int:=if k=1 then 1 else if k=3 then -1 else 0
def outY (k:Int):Int:=if k=0 then -1 else if k=2 then 1 else 0
theorem outX_bd (k:Int) : -1≤outX k∧outX k≤1:=by unfold outX;split <;> (try split) <;> omega
theorem outY_bd (k:Int) : -1≤outY k∧outY k≤1:=by unfold outY;split <;> (try split) <;> omega
open Go.RowKit
def ue0 (x y k:Int):Int:=eA (2*x+1) (2*y+1) (c1x x k) (c1y y k)
def ue1 (x y k:Int):Int:=eB (2*x+1) (2*y+1) (c1x x k) (c1y y k)
def ue2 (x y k:Int):Int:=eC (2*x+1) (2*y+1) (c1x x k) (c1y y k)
def ue3 (x y k:Int):Int:=eD (2*x+1) (2*y+1) (c1x x k) (c1y y k)
def ue4 (x y k:Int):Int:=eA (c1x x k) (c1y y k) (c2x x k) (c2y y k)
def ue5 (x y k:Int):Int:=eB (c1x x k) (c1y y k) (c2x x k) (c2y y k)
def ue6 (x y k:Int):Int:=eC (c1x x k) (c1y y k) (c2x x k) (c2y y k)
def ue7 (x y k:Int):Int:=eD (c1x x k) (c1y y k) (c2x x k) (c2y y k)
def ue8 (x y k:Int):Int:=eA (c2x x k) (c2y y k) (2*x+1) (2*y+1)
def ue9 (x y k:Int):Int:=eB (c2x x k) (c2y y k) (2*x+1) (2*y+1)
def ue10 (x y k:Int):Int:=eC (c2x x k) (c2y y k) (2*x+1) (2*y+1)
def ue11 (x y k:Int):Int:=eD (c2x x k) (c2y y k) (2*x+1) (2*y+1)
def sameB (a b c d p q r s:Int):Bool:=decide (a=p∧b=q∧c=r∧d=s)
def e0 (x y k p q r s:Int):Bool:=sameB (ue0 x y k) (ue1 x y k) (ue2 x y k) (ue3 x y k) p q r s
def e1 (x y k p q r s:Int):Bool:=sameB (ue4 x y k) (ue5 x y k) (ue6 x y k) (ue7 x y k) p q r s
def e2 (x y k p q r s:Int):Bool:=sameB (ue8 x y k) (ue9 x y k) (ue10 x y k) (ue11 x y k) p q r s
theorem e0_0 (x y p q r s:Int):e0 x y 0 p q r s=true↔(2*x=p∧2*y=q∧2*x+1=r∧2*y+1=s):=by
 simp [e0,sameB,ue0,ue1,ue2,ue3,eA,eB,eC,eD,lessB,c1x,c1y,stX,stY] <;> omega
theorem e1_0 (x y p q r s:Int):e1 x y 0 p q r s=true↔(2*x=p∧2*y=q∧2*x+2=r∧2*y=s):=by
 simp [e1,sameB,ue4,ue5,ue6,ue7,eA,eB,eC,eD,lessB,c1x,c1y,c2x,c2y,stX,stY] <;> omega
theorem e2_0 (x y p q r s:Int):e2 x y 0 p q r s=true↔(2*x+1=p∧2*y+1=q∧2*x+2=r∧2*y=s):=by
 simp [e2,sameB,ue8,ue9,ue10,ue11,eA,eB,eC,eD,lessB,c2x,c2y,stX,stY] <;> omega
theorem e0_1 (x y p q r s:Int):e0 x y 1 p q r s=true↔(2*x+1=p∧2*y+1=q∧2*x+2=r∧2*y=s):=by
 simp [e0,sameB,ue0,ue1,ue2,ue3,eA,eB,eC,eD,lessB,c1x,c1y,stX,stY] <;> omega
theorem e1_1 (x y p q r s:Int):e1 x y 1 p q r s=true↔(2*x+2=p∧2*y=q∧2*x+2=r∧2*y+2=s):=by
 simp [e1,sameB,ue4,ue5,ue6,ue7,eA,eB,eC,eD,lessB,c1x,c1y,c2x,c2y,stX,stY] <;> omega
theorem e2_1 (x y p q r s:Int):e2 x y 1 p q r s=true↔(2*x+1=p∧2*y+1=q∧2*x+2=r∧2*y+2=s):=by
 simp [e2,sameB,ue8,ue9,ue10,ue11,eA,eB,eC,eD,lessB,c2x,c2y,stX,stY] <;> omega
theorem e0_2 (x y p q r s:Int):e0 x y 2 p q r s=true↔(2*x+1=p∧2*y+1=q∧2*x+2=r∧2*y+2=s):=by
 simp [e0,sameB,ue0,ue1,ue2,ue3,eA,eB,eC,eD,lessB,c1x,c1y,stX,stY] <;> omega
theorem e1_2 (x y p q r s:Int):e1 x y 2 p q r s=true↔(2*x=p∧2*y+2=q∧2*x+2=r∧2*y+2=s):=by
 simp [e1,sameB,ue4,ue5,ue6,ue7,eA,eB,eC,eD,lessB,c1x,c1y,c2x,c2y,stX,stY] <;> omega
theorem e2_2 (x y p q r s:Int):e2 x y 2 p q r s=true↔(2*x=p∧2*y+2=q∧2*x+1=r∧2*y+1=s):=by
 simp [e2,sameB,ue8,ue9,ue10,ue11,eA,eB,eC,eD,lessB,c2x,c2y,stX,stY] <;> omega
theorem e0_3 (x y p q r s:Int):e0 x y 3 p q r s=true↔(2*x=p∧2*y+2=q∧2*x+1=r∧2*y+1=s):=by
 simp [e0,sameB,ue0,ue1,ue2,ue3,eA,eB,eC,eD,lessB,c1x,c1y,stX,stY] <;> omega
theorem e1_3 (x y p q r s:Int):e1 x y 3 p q r s=true↔(2*x=p∧2*y=q∧2*x=r∧2*y+2=s):=by
 simp [e1,sameB,ue4,ue5,ue6,ue7,eA,eB,eC,eD,lessB,c1x,c1y,c2x,c2y,stX,stY] <;> omega
theorem e2_3 (x y p q r s:Int):e2 x y 3 p q r s=true↔(2*x=p∧2*y=q∧2*x+1=r∧2*y+1=s):=by
 simp [e2,sameB,ue8,ue9,ue10,ue11,eA,eB,eC,eD,lessB,c2x,c2y,stX,stY] <;> omega
def hasB (x y k p q r s:Int):Bool:=e0 x y k p q r s || e1 x y k p q r s || e2 x y k p q r s
def acX (x y k p q r s:Int):Int:=if e0 x y k p q r s=true then x else if e1 x y k p q r s=true then x+outX k else if e2 x y k p q r s=true then x else 0
def acY (x y k p q r s:Int):Int:=if e0 x y k p q r s=true then y else if e1 x y k p q r s=true then y+outY k else if e2 x y k p q r s=true then y else 0
def acK (x y k p q r s:Int):Int:=if e0 x y k p q r s=true then (k+3) % 4 else if e1 x y k p q r s=true then (k+2) % 4 else if e2 x y k p q r s=true then (k+1) % 4 else 0
theorem hasB_or (x y k p q r s:Int):hasB x y k p q r s=true↔(e0 x y k p q r s=true∨e1 x y k p q r s=true∨e2 x y k p q r s=true):=by
 simp [hasB,or_assoc]
def Oth (x y k p q r s dx dy l:Int):Prop:=hasB (x+dx) (y+dy) l p q r s=true∧¬ (x+dx=x∧y+dy=y∧l=k)
set_option maxHeartbeats 1600000 in
theorem across_is (x y k p q r s dx dy l:Int) (k0:0≤k) (k3:k≤3) (l0:0≤l) (l3:l≤3) (h:hasB x y k p q r s=true) (ho:Oth x y k p q r s dx dy l) :
  x+dx=acX x y k p q r s∧y+dy=acY x y k p q r s∧l=acK x y k p q r s:=by
 have hk:k=0∨k=1∨k=2∨k=3:=by omega
 have hl:l=0∨l=1∨l=2∨l=3:=by omega
 obtain ⟨h2,h3⟩:=ho
 rw [hasB_or] at h h2
 rcases hk with rfl | rfl | rfl | rfl <;> simp only [acX,acY,acK,outX,outY,e0_0,e0_1,e0_2,e0_3,e1_0,e1_1,e1_2,e1_3,e2_0,e2_1,e2_2,e2_3] at h ⊢ <;> rcases h with ⟨rfl,rfl,rfl,rfl⟩ | ⟨rfl,rfl,rfl,rfl⟩ | ⟨rfl,rfl,rfl,rfl⟩ <;> simp <;> rcases hl with rfl | rfl | rfl | rfl <;> simp only [e0_0,e0_1,e0_2,e0_3,e1_0,e1_1,e1_2,e1_3,e2_0,e2_1,e2_2,e2_3] at h2 <;> omega
theorem across_has (x y k p q r s:Int) (k0:0≤k) (k3:k≤3) (h:hasB x y k p q r s=true) :
  ∃ dx dy l:Int,(-1≤dx∧dx≤1)∧(-1≤dy∧dy≤1)∧(0≤l∧l≤3)∧Oth x y k p q r s dx dy l:=by
 have hk:k=0∨k=1∨k=2∨k=3:=by omega
 rw [hasB_or] at h
 unfold Oth
 simp only [hasB_or]
 rcases hk with rfl | rfl | rfl | rfl <;> simp only [e0_0,e0_1,e0_2,e0_3,e1_0,e1_1,e1_2,e1_3,e2_0,e2_1,e2_2,e2_3] at h <;> rcases h with h | h | h
 ·exact ⟨0,0,3,by omega,by omega,by omega,by simp only [e0_3,e1_3,e2_3];omega,by omega⟩
 ·exact ⟨0, -1,2,by omega,by omega,by omega,by simp only [e0_2,e1_2,e2_2];omega,by omega⟩
 ·exact ⟨0,0,1,by omega,by omega,by omega,by simp only [e0_1,e1_1,e2_1];omega,by omega⟩
 ·exact ⟨0,0,0,by omega,by omega,by omega,by simp only [e0_0,e1_0,e2_0];omega,by omega⟩
 ·exact ⟨1,0,3,by omega,by omega,by omega,by simp only [e0_3,e1_3,e2_3];omega,by omega⟩
 ·exact ⟨0,0,2,by omega,by omega,by omega,by simp only [e0_2,e1_2,e2_2];omega,by omega⟩
 ·exact ⟨0,0,1,by omega,by omega,by omega,by simp only [e0_1,e1_1,e2_1];omega,by omega⟩
 ·exact ⟨0,1,0,by omega,by omega,by omega,by simp only [e0_0,e1_0,e2_0];omega,by omega⟩
 ·exact ⟨0,0,3,by omega,by omega,by omega,by simp only [e0_3,e1_3,e2_3];omega,by omega⟩
 ·exact ⟨0,0,2,by omega,by omega,by omega,by simp only [e0_2,e1_2,e2_2];omega,by omega⟩
 ·exact ⟨-1,0,1,by omega,by omega,by omega,by simp only [e0_1,e1_1,e2_1];omega,by omega⟩
 ·exact ⟨0,0,0,by omega,by omega,by omega,by simp only [e0_0,e1_0,e2_0];omega,by omega⟩
open Go.RowKit
theorem eql27 (a b c d p q r s:Int) (w:World) :
  (binOp .eql 81 (.agg #[.int .i64 a,.int .i64 b,.int .i64 c,.int .i64 d]) (.agg #[.int .i64 p,.int .i64 q,.int .i64 r,.int .i64 s])).run Tryz.prog w=.ok (.bool (sameB a b c d p q r s)) w:=by
 by_cases h1:a=p
 ·subst h1
  by_cases h2:b=q
  ·subst h2
   by_cases h3:c=r
   ·subst h3
    by_cases h4:d=s
    ·subst h4
     simp [go_sem,sameB]
    ·have e:(d == s)=false:=by simpa using h4
     simp [go_sem,sameB,e,h4]
   ·have e:(c == r)=false:=by simpa using h3
    simp [go_sem,sameB,e,h3]
  ·have e:(b == q)=false:=by simpa using h2
   simp [go_sem,sameB,e,h2]
 ·have e:(a == p)=false:=by simpa using h1
  simp [go_sem,sameB,e,h1]
def sameT (x y k X Y K:Int):Bool:=decide (x=X∧y=Y∧k=K)
theorem neq23 (x y k X Y K:Int) (w:World) :
  (binOp .neq 56 (.agg #[.int .i64 x,.int .i64 y,.int .i64 k]) (.agg #[.int .i64 X,.int .i64 Y,.int .i64 K])).run Tryz.prog w=.ok (.bool (!sameT x y k X Y K)) w:=by
 by_cases h1:x=X
 ·subst h1
  by_cases h2:y=Y
  ·subst h2
   by_cases h3:k=K
   ·subst h3
    simp [go_sem,sameT]
   ·have e:(k == K)=false:=by simpa using h3
    simp [go_sem,sameT,e,h3]
  ·have e:(y == Y)=false:=by simpa using h2
   simp [go_sem,sameT,e,h2]
 ·have e:(x == X)=false:=by simpa using h1
  simp [go_sem,sameT,e,h1]
theorem eql23 (x y k X Y K:Int) (w:World) :
  (binOp .eql 56 (.agg #[.int .i64 x,.int .i64 y,.int .i64 k]) (.agg #[.int .i64 X,.int .i64 Y,.int .i64 K])).run Tryz.prog w=.ok (.bool (sameT x y k X Y K)) w:=by
 by_cases h1:x=X
 ·subst h1
  by_cases h2:y=Y
  ·subst h2
   by_cases h3:k=K
   ·subst h3
    simp [go_sem,sameT]
   ·have e:(k == K)=false:=by simpa using h3
    simp [go_sem,sameT,e,h3]
  ·have e:(y == Y)=false:=by simpa using h2
   simp [go_sem,sameT,e,h2]
 ·have e:(x == X)=false:=by simpa using h1
  simp [go_sem,sameT,e,h1]
open Go.RowKit Go.ChangeMaps
def ek (e:Int×Int×Int×Int):Value:=.agg #[.int .i64 e.1,.int .i64 e.2.1,.int .i64 e.2.2.1,.int .i64 e.2.2.2]
def toE (x:(Int×Int×Int×Int)×Value×Nat):MapEntry:=⟨ek x.1,x.2.1,x.2.2⟩
theorem equal27 (a b:Int×Int×Int×Int) (w:World):(Op.equal 81 (ek a) (ek b)).run Tryz.prog w=.ok (decide (a=b)) w:=by
 obtain ⟨a0,a1,a2,a3⟩:=a
 obtain ⟨b0,b1,b2,b3⟩:=b
 have h:=eql27 a0 a1 a2 a3 b0 b1 b2 b3 w
 have e:sameB a0 a1 a2 a3 b0 b1 b2 b3=decide ((a0,a1,a2,a3)=(b0,b1,b2,b3)):=by simp [sameB]
 rw [e] at h
 unfold ek
 simp only [binOp,Sem.run_bind,Sem.run_pure] at h
 cases hr:(Op.equal 81 (.agg #[.int .i64 a0,.int .i64 a1,.int .i64 a2,.int .i64 a3]) (.agg #[.int .i64 b0,.int .i64 b1,.int .i64 b2,.int .i64 b3])).run Tryz.prog w with
 | ok r w1 =>
  rw [hr] at h
  simpa [Result.andThen] using h
 | halt x w1 =>
  rw [hr] at h
  simp [Result.andThen] at h
theorem checkInt (em:Bool) (n:Nat) (a:Int) (w:World):(Instr.checkKey em (n+1) 3 (.int .i64 a)).run Tryz.prog w=.ok () w:=by
 simp [Instr.checkKey,run_underlying Tryz.underlying3,Result.andThen]
theorem check25 (em:Bool) (n:Nat) (a b:Int) (w:World):(Instr.checkKey em (n+2) 79 (.agg #[.int .i64 a,.int .i64 b])).run Tryz.prog w=.ok () w:=by
 rw [show n+2=(n+1)+1 by omega]
 unfold Instr.checkKey
 simp [run_underlying Tryz.underlying79,go_sem,checkInt]
theorem check27a (em:Bool) (n:Nat) (a b c d:Int) (w:World):(Instr.checkKey em (n+3) 81 (.agg #[.int .i64 a,.int .i64 b,.int .i64 c,.int .i64 d])).run Tryz.prog w=.ok () w:=by
 rw [show n+3=(n+2)+1 by omega]
 unfold Instr.checkKey
 simp [run_underlying Tryz.underlying81,go_sem,check25]
theorem check27 (em:Bool) (a:Int×Int×Int×Int) (w:World):(Instr.checkKey em 10000 81 (ek a)).run Tryz.prog w=.ok () w:=check27a em 9997 _ _ _ _ w
theorem stays27 (a:Int×Int×Int×Int) (w:World):(Instr.keyThatStays (ek a) (ek a)).run Tryz.prog w=.ok (ek a) w:=by
 have:Instr.sameBits 10000 (ek a) (ek a)=true:=by
  unfold ek
  show Instr.sameBits (9999+1) _ _=true
  simp [Instr.sameBits]
 simp [Instr.keyThatStays,this]
theorem find27 (k:Int×Int×Int×Int) (w:World):∀ (ls:List ((Int×Int×Int×Int)×Value×Nat)) (i:Nat),
  ((Instr.findAsking 81 (ek k) (ls.map toE) i).run Tryz.prog w=.ok none w∧∀ x∈ls,x.1≠k) ∨
  ∃ j x,(Instr.findAsking 81 (ek k) (ls.map toE) i).run Tryz.prog w=.ok (some (i+j,x.2.1)) w∧ls[j]?=some x∧x.1=k
 | [],i=>Or.inl ⟨by simp [Instr.findAsking],by simp⟩
 | x :: r,i=>by
  by_cases h:k=x.1
  ·refine Or.inr ⟨0,x, ?_,rfl,h.symm⟩
   have hq:=equal27 k x.1 w
   rw [decide_eq_true h] at hq
   rw [List.map_cons]
   simp only [Instr.findAsking,toE,Sem.run_bind,hq,Result.andThen]
   rfl
  ·have hq:=equal27 k x.1 w
   rw [decide_eq_false h] at hq
   rcases find27 k w r (i+1) with ⟨h1,h2⟩ | ⟨j,y,h1,h2,h3⟩
   ·refine Or.inl ⟨?_, ?_⟩
    ·rw [List.map_cons]
     simp only [Instr.findAsking,toE,Sem.run_bind,hq,Result.andThen]
     exact h1
    ·intro y hy
     rcases List.mem_cons.1 hy with rfl | hy
     ·exact fun e=>h e.symm
     ·exact h2 y hy
   ·refine Or.inr ⟨j+1,y, ?_,by simpa using h2,h3⟩
    rw [List.map_cons]
    simp only [Instr.findAsking,toE,Sem.run_bind,hq,Result.andThen]
    rw [show i+(j+1)=i+1+j by omega]
    exact h1
end Go.Proofs.YtgpjaecgkkgehaaGreatDoor
