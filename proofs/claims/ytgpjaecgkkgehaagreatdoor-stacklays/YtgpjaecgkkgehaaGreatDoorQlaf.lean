/- A part of the proof of stackLays_holds. -/
import Derived.Test.YtgpjaecgkkgehaaGreatDoorQlad
import Derived.Test.YtgpjaecgkkgehaaGreatDoorQlab
import Derived.Test.YtgpjaecgkkgehaaGreatDoorQlae
set_option maxRecDepth 100000
set_option maxHeartbeats 40000000
namespace Go.Proofs.YtgpjaecgkkgehaaGreatDoor
open Go.RowKit
attribute [local go_sem ↓] Go.wp_at_zero Go.wp_at_succ
theorem edges_any (x y k:Int) (w:World) (h:triB x y k=true) (hs:Steps w) :
  Calls Tryz.prog 204 #[.agg #[.int .i64 x,.int .i64 y,.int .i64 k]] w fun r w'=>r=.returned (.agg #[
   .int .i64 (eA (2*x+1) (2*y+1) (c1x x k) (c1y y k)),.int .i64 (eB (2*x+1) (2*y+1) (c1x x k) (c1y y k)),.int .i64 (eC (2*x+1) (2*y+1) (c1x x k) (c1y y k)),.int .i64 (eD (2*x+1) (2*y+1) (c1x x k) (c1y y k)),
   .int .i64 (eA (c1x x k) (c1y y k) (c2x x k) (c2y y k)),.int .i64 (eB (c1x x k) (c1y y k) (c2x x k) (c2y y k)),.int .i64 (eC (c1x x k) (c1y y k) (c2x x k) (c2y y k)),.int .i64 (eD (c1x x k) (c1y y k) (c2x x k) (c2y y k)),
   .int .i64 (eA (c2x x k) (c2y y k) (2*x+1) (2*y+1)),.int .i64 (eB (c2x x k) (c2y y k) (2*x+1) (2*y+1)),.int .i64 (eC (c2x x k) (c2y y k) (2*x+1) (2*y+1)),.int .i64 (eD (c2x x k) (c2y y k) (2*x+1) (2*y+1))])∧Bl w w':=by
 have HS:Hid (Steps w):=hs
 clear hs
 go_enter Tryz.func204,Tryz.ntmps204
 go_wp2_with (go_at_call 91;refine (corners_any _ _ _ _ h (HS.out.kept (Qb (Qb (Qc _))))).mono ?_;rintro r w1 ⟨rfl,hb⟩;have r0:w1.cell? ⟨w.heap.size+1,0,none⟩=some (.int .i64 0):=Qv hb (by simp [go_sem]);have f0:w1.frozen? ⟨w.heap.size+1,0,none⟩=false:=(hb.frozen (p:=⟨w.heap.size+1,0,none⟩) (by simp)).trans (by simp [go_sem]);have r1:w1.cell? ⟨w.heap.size+1,1,none⟩=some (.int .i64 0):=Qv hb (by simp [go_sem]);have f1:w1.frozen? ⟨w.heap.size+1,1,none⟩=false:=(hb.frozen (p:=⟨w.heap.size+1,1,none⟩) (by simp)).trans (by simp [go_sem]);have r2:w1.cell? ⟨w.heap.size+1,2,none⟩=some (.int .i64 0):=Qv hb (by simp [go_sem]);have f2:w1.frozen? ⟨w.heap.size+1,2,none⟩=false:=(hb.frozen (p:=⟨w.heap.size+1,2,none⟩) (by simp)).trans (by simp [go_sem]);have r3:w1.cell? ⟨w.heap.size+1,3,none⟩=some (.int .i64 0):=Qv hb (by simp [go_sem]);have f3:w1.frozen? ⟨w.heap.size+1,3,none⟩=false:=(hb.frozen (p:=⟨w.heap.size+1,3,none⟩) (by simp)).trans (by simp [go_sem]);have r4:w1.cell? ⟨w.heap.size+1,4,none⟩=some (.int .i64 0):=Qv hb (by simp [go_sem]);have f4:w1.frozen? ⟨w.heap.size+1,4,none⟩=false:=(hb.frozen (p:=⟨w.heap.size+1,4,none⟩) (by simp)).trans (by simp [go_sem]);have r5:w1.cell? ⟨w.heap.size+1,5,none⟩=some (.int .i64 0):=Qv hb (by simp [go_sem]);have f5:w1.frozen? ⟨w.heap.size+1,5,none⟩=false:=(hb.frozen (p:=⟨w.heap.size+1,5,none⟩) (by simp)).trans (by simp [go_sem]);have r6:w1.cell? ⟨w.heap.size+1,6,none⟩=some (.int .i64 0):=Qv hb (by simp [go_sem]);have f6:w1.frozen? ⟨w.heap.size+1,6,none⟩=false:=(hb.frozen (p:=⟨w.heap.size+1,6,none⟩) (by simp)).trans (by simp [go_sem]);have r7:w1.cell? ⟨w.heap.size+1,7,none⟩=some (.int .i64 0):=Qv hb (by simp [go_sem]);have f7:w1.frozen? ⟨w.heap.size+1,7,none⟩=false:=(hb.frozen (p:=⟨w.heap.size+1,7,none⟩) (by simp)).trans (by simp [go_sem]);have r8:w1.cell? ⟨w.heap.size+1,8,none⟩=some (.int .i64 0):=Qv hb (by simp [go_sem]);have f8:w1.frozen? ⟨w.heap.size+1,8,none⟩=false:=(hb.frozen (p:=⟨w.heap.size+1,8,none⟩) (by simp)).trans (by simp [go_sem]);have r9:w1.cell? ⟨w.heap.size+1,9,none⟩=some (.int .i64 0):=Qv hb (by simp [go_sem]);have f9:w1.frozen? ⟨w.heap.size+1,9,none⟩=false:=(hb.frozen (p:=⟨w.heap.size+1,9,none⟩) (by simp)).trans (by simp [go_sem]);have r10:w1.cell? ⟨w.heap.size+1,10,none⟩=some (.int .i64 0):=Qv hb (by simp [go_sem]);have f10:w1.frozen? ⟨w.heap.size+1,10,none⟩=false:=(hb.frozen (p:=⟨w.heap.size+1,10,none⟩) (by simp)).trans (by simp [go_sem]);have r11:w1.cell? ⟨w.heap.size+1,11,none⟩=some (.int .i64 0):=Qv hb (by simp [go_sem]);have f11:w1.frozen? ⟨w.heap.size+1,11,none⟩=false:=(hb.frozen (p:=⟨w.heap.size+1,11,none⟩) (by simp)).trans (by simp [go_sem]);have z0:w.heap.size+1<w1.heap.size:=World.block_lt_of_cell? (w:=w1) (a:=⟨w.heap.size+1,0,none⟩) r0;have z1:w.heap.size+1<w1.heap.size+1:=(by omega);have z2:w.heap.size+1<w1.heap.size+1+1:=(by omega);have z3:w.heap.size+1<w1.heap.size+1+1+1:=(by omega);have z4:w.heap.size+1<w1.heap.size+1+1+1+1:=(by omega);have z5:w.heap.size+1<w1.heap.size+1+1+1+1+1:=(by omega);have z6:w.heap.size+1<w1.heap.size+1+1+1+1+1+1:=(by omega);have z7:w.heap.size+1<w1.heap.size+1+1+1+1+1+1+1:=(by omega);have z8:w.heap.size+1<w1.heap.size+1+1+1+1+1+1+1+1:=(by omega);have z9:w.heap.size+1<w1.heap.size+1+1+1+1+1+1+1+1+1:=(by omega);have z10:w.heap.size+1<w1.heap.size+1+1+1+1+1+1+1+1+1+1:=(by omega);have z11:w.heap.size+1<w1.heap.size+1+1+1+1+1+1+1+1+1+1+1:=(by omega);have HB:Hid (Bl w w1):=Qe (Qb (Qb (Qc _))) hb;clear hb)
 go_region_held3 (fun w'=>w'.cell? ⟨w1.heap.size,0,none⟩=some (.int .i64 (2*x+1))∧w'.cell? ⟨w1.heap.size,1,none⟩=some (.int .i64 (2*y+1))∧w'.cell? ⟨w1.heap.size,2,none⟩=some (.int .i64 (c1x x k))∧w'.cell? ⟨w1.heap.size,3,none⟩=some (.int .i64 (c1y y k))∧w'.cell? ⟨w1.heap.size,4,none⟩=some (.int .i64 (c2x x k))∧w'.cell? ⟨w1.heap.size,5,none⟩=some (.int .i64 (c2y y k)))
  ((refine ⟨?_,?_,?_,?_,?_,?_⟩<;>(first|(simp [go_sem];done)|(simp [go_sem,World.cell?_alloc_past];done)|(repeat' (first|(with_reducible refine Qj ?_ ?_)|(dsimp only;omega)|(simp [go_sem,World.cell?_alloc_past];done))))))
  (first|(go_at_call 215;refine (edge_num _ _ _ _ _).mono ?_;rintro r w2 ⟨rfl,o3,o4,o5,rfl⟩))
 go_wp2
 refine bodyPost_ret (v:=.agg #[ .int .i64 (eA (2*x+1) (2*y+1) (c1x x k) (c1y y k)),.int .i64 (eB (2*x+1) (2*y+1) (c1x x k) (c1y y k)),.int .i64 (eC (2*x+1) (2*y+1) (c1x x k) (c1y y k)),.int .i64 (eD (2*x+1) (2*y+1) (c1x x k) (c1y y k)),.int .i64 (eA (c1x x k) (c1y y k) (c2x x k) (c2y y k)),.int .i64 (eB (c1x x k) (c1y y k) (c2x x k) (c2y y k)),.int .i64 (eC (c1x x k) (c1y y k) (c2x x k) (c2y y k)),.int .i64 (eD (c1x x k) (c1y y k) (c2x x k) (c2y y k)),.int .i64 (eA (c2x x k) (c2y y k) (2*x+1) (2*y+1)),.int .i64 (eB (c2x x k) (c2y y k) (2*x+1) (2*y+1)),.int .i64 (eC (c2x x k) (c2y y k) (2*x+1) (2*y+1)),.int .i64 (eD (c2x x k) (c2y y k) (2*x+1) (2*y+1))]) ?_ rfl ⟨rfl,?_⟩
 ·simp [results,Tryz.results204,go_sem,World.cell?_alloc_past, *]
 ·with_reducible repeat' (first|exact HB.out|refine Ql ?_ ?_|refine Qb ?_|refine Qf ?_)
  all_goals (dsimp only;omega)
def ue0 (x y k:Int):Int:=eA (2*x+1) (2*y+1) (c1x x k) (c1y y k)
def ue1 (x y k:Int):Int:=eB (2*x+1) (2*y+1) (c1x x k) (c1y y k)
def ue2 (x y k:Int):Int:=eC (2*x+1) (2*y+1) (c1x x k) (c1y y k)
def ue3 (x y k:Int):Int:=eD (2*x+1) (2*y+1) (c1x x k) (c1y y k)
def ue4 (x y k:Int):Int:=eA (c1x x k) (c1y y k) (c2x x k) (c2y y k)
def ue5 (x y k:Int):Int:=eB (c1x x k) (c1y y k) (c2x x k) (c2y y k)
def ue6 (x y k:Int):Int:=eC (c1x x k) (c1y y k) (c2x x k) (c2y y k)
def ue7 (x y k:Int):Int:=eD (c1x x k) (c1y y k) (c2x x k) (c2y y k)
def ue8 (x y k:Int):Int:=eA (c2x x k) (c2y y k) (2*x+1) (2*y+1)
def ue9 (x y k:Int):Int:=eB (c2x x k) (c2y y k) (2*x+1) (2*y+1)
def ue10 (x y k:Int):Int:=eC (c2x x k) (c2y y k) (2*x+1) (2*y+1)
def ue11 (x y k:Int):Int:=eD (c2x x k) (c2y y k) (2*x+1) (2*y+1)
def sameB (a b c d p q r s:Int):Bool:=decide (a=p∧b=q∧c=r∧d=s)
def e0 (x y k p q r s:Int):Bool:=sameB (ue0 x y k) (ue1 x y k) (ue2 x y k) (ue3 x y k) p q r s
def e1 (x y k p q r s:Int):Bool:=sameB (ue4 x y k) (ue5 x y k) (ue6 x y k) (ue7 x y k) p q r s
def e2 (x y k p q r s:Int):Bool:=sameB (ue8 x y k) (ue9 x y k) (ue10 x y k) (ue11 x y k) p q r s
theorem e0_0 (x y p q r s:Int):e0 x y 0 p q r s=true↔(2*x=p∧2*y=q∧2*x+1=r∧2*y+1=s):=by
 simp [e0,sameB,ue0,ue1,ue2,ue3,eA,eB,eC,eD,lessB,c1x,c1y,stX,stY]<;>omega
theorem e1_0 (x y p q r s:Int):e1 x y 0 p q r s=true↔(2*x=p∧2*y=q∧2*x+2=r∧2*y=s):=by
 simp [e1,sameB,ue4,ue5,ue6,ue7,eA,eB,eC,eD,lessB,c1x,c1y,c2x,c2y,stX,stY]<;>omega
theorem e2_0 (x y p q r s:Int):e2 x y 0 p q r s=true↔(2*x+1=p∧2*y+1=q∧2*x+2=r∧2*y=s):=by
 simp [e2,sameB,ue8,ue9,ue10,ue11,eA,eB,eC,eD,lessB,c2x,c2y,stX,stY]<;>omega
theorem e0_1 (x y p q r s:Int):e0 x y 1 p q r s=true↔(2*x+1=p∧2*y+1=q∧2*x+2=r∧2*y=s):=by
 simp [e0,sameB,ue0,ue1,ue2,ue3,eA,eB,eC,eD,lessB,c1x,c1y,stX,stY]<;>omega
theorem e1_1 (x y p q r s:Int):e1 x y 1 p q r s=true↔(2*x+2=p∧2*y=q∧2*x+2=r∧2*y+2=s):=by
 simp [e1,sameB,ue4,ue5,ue6,ue7,eA,eB,eC,eD,lessB,c1x,c1y,c2x,c2y,stX,stY]<;>omega
theorem e2_1 (x y p q r s:Int):e2 x y 1 p q r s=true↔(2*x+1=p∧2*y+1=q∧2*x+2=r∧2*y+2=s):=by
 simp [e2,sameB,ue8,ue9,ue10,ue11,eA,eB,eC,eD,lessB,c2x,c2y,stX,stY]<;>omega
theorem e0_2 (x y p q r s:Int):e0 x y 2 p q r s=true↔(2*x+1=p∧2*y+1=q∧2*x+2=r∧2*y+2=s):=by
 simp [e0,sameB,ue0,ue1,ue2,ue3,eA,eB,eC,eD,lessB,c1x,c1y,stX,stY]<;>omega
theorem e1_2 (x y p q r s:Int):e1 x y 2 p q r s=true↔(2*x=p∧2*y+2=q∧2*x+2=r∧2*y+2=s):=by
 simp [e1,sameB,ue4,ue5,ue6,ue7,eA,eB,eC,eD,lessB,c1x,c1y,c2x,c2y,stX,stY]<;>omega
theorem e2_2 (x y p q r s:Int):e2 x y 2 p q r s=true↔(2*x=p∧2*y+2=q∧2*x+1=r∧2*y+1=s):=by
 simp [e2,sameB,ue8,ue9,ue10,ue11,eA,eB,eC,eD,lessB,c2x,c2y,stX,stY]<;>omega
theorem e0_3 (x y p q r s:Int):e0 x y 3 p q r s=true↔(2*x=p∧2*y+2=q∧2*x+1=r∧2*y+1=s):=by
 simp [e0,sameB,ue0,ue1,ue2,ue3,eA,eB,eC,eD,lessB,c1x,c1y,stX,stY]<;>omega
theorem e1_3 (x y p q r s:Int):e1 x y 3 p q r s=true↔(2*x=p∧2*y=q∧2*x=r∧2*y+2=s):=by
 simp [e1,sameB,ue4,ue5,ue6,ue7,eA,eB,eC,eD,lessB,c1x,c1y,c2x,c2y,stX,stY]<;>omega
theorem e2_3 (x y p q r s:Int):e2 x y 3 p q r s=true↔(2*x=p∧2*y=q∧2*x+1=r∧2*y+1=s):=by
 simp [e2,sameB,ue8,ue9,ue10,ue11,eA,eB,eC,eD,lessB,c2x,c2y,stX,stY]<;>omega
def hasB (x y k p q r s:Int):Bool:=e0 x y k p q r s || e1 x y k p q r s || e2 x y k p q r s
def acX (x y k p q r s:Int):Int:=if e0 x y k p q r s=true then x else if e1 x y k p q r s=true then x+outX k else if e2 x y k p q r s=true then x else 0
def acY (x y k p q r s:Int):Int:=if e0 x y k p q r s=true then y else if e1 x y k p q r s=true then y+outY k else if e2 x y k p q r s=true then y else 0
def acK (x y k p q r s:Int):Int:=if e0 x y k p q r s=true then (k+3) % 4 else if e1 x y k p q r s=true then (k+2) % 4 else if e2 x y k p q r s=true then (k+1) % 4 else 0
theorem Xw (x y k p q r s:Int):hasB x y k p q r s=true↔(e0 x y k p q r s=true∨e1 x y k p q r s=true∨e2 x y k p q r s=true):=by
 simp [hasB,or_assoc]
def Oth (x y k p q r s dx dy l:Int):Prop:=hasB (x+dx) (y+dy) l p q r s=true∧¬(x+dx=x∧y+dy=y∧l=k)
theorem across_is (x y k p q r s dx dy l:Int) (k0:0≤k) (k3:k≤3) (l0:0≤l) (l3:l≤3) (h:hasB x y k p q r s=true) (ho:Oth x y k p q r s dx dy l) :
  x+dx=acX x y k p q r s∧y+dy=acY x y k p q r s∧l=acK x y k p q r s:=by
 have hk:k=0∨k=1∨k=2∨k=3:=by omega
 have hl:l=0∨l=1∨l=2∨l=3:=by omega
 obtain ⟨h2,h3⟩:=ho
 rw [Xw] at h h2
 rcases hk with rfl|rfl|rfl|rfl<;>simp only [acX,acY,acK,outX,outY,e0_0,e0_1,e0_2,e0_3,e1_0,e1_1,e1_2,e1_3,e2_0,e2_1,e2_2,e2_3] at h ⊢ <;> rcases h with ⟨rfl,rfl,rfl,rfl⟩|⟨rfl,rfl,rfl,rfl⟩|⟨rfl,rfl,rfl,rfl⟩<;>simp<;>rcases hl with rfl|rfl|rfl|rfl<;>simp only [e0_0,e0_1,e0_2,e0_3,e1_0,e1_1,e1_2,e1_3,e2_0,e2_1,e2_2,e2_3] at h2<;>omega
theorem across_has (x y k p q r s:Int) (k0:0≤k) (k3:k≤3) (h:hasB x y k p q r s=true) :
  ∃dx dy l:Int,(-1≤dx∧dx≤1)∧(-1≤dy∧dy≤1)∧(0≤l∧l≤3)∧Oth x y k p q r s dx dy l:=by
 have hk:k=0∨k=1∨k=2∨k=3:=by omega
 rw [Xw] at h
 unfold Oth
 simp only [Xw]
 rcases hk with rfl|rfl|rfl|rfl<;>simp only [e0_0,e0_1,e0_2,e0_3,e1_0,e1_1,e1_2,e1_3,e2_0,e2_1,e2_2,e2_3] at h<;>rcases h with h|h|h
 ·exact ⟨0,0,3,by omega,by omega,by omega,by simp only [e0_3,e1_3,e2_3];omega,by omega⟩
 ·exact ⟨0, -1,2,by omega,by omega,by omega,by simp only [e0_2,e1_2,e2_2];omega,by omega⟩
 ·exact ⟨0,0,1,by omega,by omega,by omega,by simp only [e0_1,e1_1,e2_1];omega,by omega⟩
 ·exact ⟨0,0,0,by omega,by omega,by omega,by simp only [e0_0,e1_0,e2_0];omega,by omega⟩
 ·exact ⟨1,0,3,by omega,by omega,by omega,by simp only [e0_3,e1_3,e2_3];omega,by omega⟩
 ·exact ⟨0,0,2,by omega,by omega,by omega,by simp only [e0_2,e1_2,e2_2];omega,by omega⟩
 ·exact ⟨0,0,1,by omega,by omega,by omega,by simp only [e0_1,e1_1,e2_1];omega,by omega⟩
 ·exact ⟨0,1,0,by omega,by omega,by omega,by simp only [e0_0,e1_0,e2_0];omega,by omega⟩
 ·exact ⟨0,0,3,by omega,by omega,by omega,by simp only [e0_3,e1_3,e2_3];omega,by omega⟩
 ·exact ⟨0,0,2,by omega,by omega,by omega,by simp only [e0_2,e1_2,e2_2];omega,by omega⟩
 ·exact ⟨-1,0,1,by omega,by omega,by omega,by simp only [e0_1,e1_1,e2_1];omega,by omega⟩
 ·exact ⟨0,0,0,by omega,by omega,by omega,by simp only [e0_0,e1_0,e2_0];omega,by omega⟩
end Go.Proofs.YtgpjaecgkkgehaaGreatDoor
