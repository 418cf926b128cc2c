/- A part of the proof of foldFlat_holds. -/
import Derived.Test.YtgpjaecgkkgehaaGreatDoorQfac
import Derived.Test.YtgpjaecgkkgehaaGreatDoorQfab
namespace Go.Proofs.YtgpjaecgkkgehaaGreatDoor
open Go.RowKit
def lessB (a b c d:Int):Bool:=decide (a<c∨(a=c∧b<d))
set_option maxHeartbeats 800000 in
theorem lessPoint_any (a b c d:Int) (w:World) :
  Calls Tryz.prog 75 #[.agg #[.int .i64 a,.int .i64 b],.agg #[.int .i64 c,.int .i64 d]] w fun r w'=>r=.returned (.bool (lessB a b c d))∧∃ o1 o2,w'=(w.alloc o1).alloc o2:=by
 go_enter Tryz.func75,Tryz.ntmps75
 go_wp2
 all_goals
  go_ret
  exact ⟨ret_bool (by rw [Bool.eq_iff_iff];simp_all [lessB] <;> omega),_,_,rfl⟩
set_option maxHeartbeats 800000 in
theorem edgeOf_turn (a b c d:Int) (w:World) (h:lessB c d a b=true) :
  Calls Tryz.prog 79 #[.agg #[.int .i64 a,.int .i64 b],.agg #[.int .i64 c,.int .i64 d]] w fun r w'=>r=.returned (.agg #[.int .i64 c,.int .i64 d,.int .i64 a,.int .i64 b])∧∃ o1 o2 o3 o4 o5,w'=((((w.alloc o1).alloc o2).alloc o3).alloc o4).alloc o5:=by
 go_enter Tryz.func79,Tryz.ntmps79
 go_wp2_with (go_at_call 75;refine (lessPoint_any _ _ _ _ _).mono ?_;rintro r w' ⟨rfl,o1,o2,rfl⟩)
 exact bodyPost_ret (v:=.agg #[.int .i64 c,.int .i64 d,.int .i64 a,.int .i64 b]) (by simp [results,Tryz.results79,go_sem]) rfl ⟨rfl,_,_,_,_,_,rfl⟩
set_option maxHeartbeats 800000 in
theorem edgeOf_keep (a b c d:Int) (w:World) (h:lessB c d a b=false) :
  Calls Tryz.prog 79 #[.agg #[.int .i64 a,.int .i64 b],.agg #[.int .i64 c,.int .i64 d]] w fun r w'=>r=.returned (.agg #[.int .i64 a,.int .i64 b,.int .i64 c,.int .i64 d])∧∃ o1 o2 o3 o4 o5,w'=((((w.alloc o1).alloc o2).alloc o3).alloc o4).alloc o5:=by
 go_enter Tryz.func79,Tryz.ntmps79
 go_wp2_with (go_at_call 75;refine (lessPoint_any _ _ _ _ _).mono ?_;rintro r w' ⟨rfl,o1,o2,rfl⟩)
 exact bodyPost_ret (v:=.agg #[.int .i64 a,.int .i64 b,.int .i64 c,.int .i64 d]) (by simp [results,Tryz.results79,go_sem]) rfl ⟨rfl,_,_,_,_,_,rfl⟩
set_option maxHeartbeats 1600000 in
theorem edge_any (a b c d:Int) (w:World) :
  Calls Tryz.prog 215 #[.agg #[.int .i64 a,.int .i64 b],.agg #[.int .i64 c,.int .i64 d]] w fun r w'=>r=.returned (if lessB c d a b=true then .agg #[.int .i64 c,.int .i64 d,.int .i64 a,.int .i64 b] else .agg #[.int .i64 a,.int .i64 b,.int .i64 c,.int .i64 d])∧∃ o1 o2 o3,w'=((w.alloc o1).alloc o2).alloc o3:=by
 by_cases h1:c<a
 ·have e:lessB c d a b=true:=by simp [lessB,h1]
  rw [if_pos e]
  clear e
  go_enter Tryz.func215,Tryz.ntmps215
  go_wp2
  exact bodyPost_ret (v:=.agg #[.int .i64 c,.int .i64 d,.int .i64 a,.int .i64 b]) (by simp [results,Tryz.results215,go_sem]) rfl ⟨rfl,_,_,_,rfl⟩
 by_cases h2:c=a
 ·subst h2
  by_cases h3:d<b
  ·have e:lessB c d c b=true:=by simp [lessB,h3]
   rw [if_pos e]
   clear e
   go_enter Tryz.func215,Tryz.ntmps215
   go_wp2
   exact bodyPost_ret (v:=.agg #[.int .i64 c,.int .i64 d,.int .i64 c,.int .i64 b]) (by simp [results,Tryz.results215,go_sem]) rfl ⟨rfl,_,_,_,rfl⟩
  ·have e:¬ lessB c d c b=true:=by simp [lessB,h3]
   rw [if_neg e]
   clear e
   go_enter Tryz.func215,Tryz.ntmps215
   go_wp2
   exact bodyPost_ret (v:=.agg #[.int .i64 c,.int .i64 b,.int .i64 c,.int .i64 d]) (by simp [results,Tryz.results215,go_sem]) rfl ⟨rfl,_,_,_,rfl⟩
 ·have e:¬ lessB c d a b=true:=by simp [lessB,h1,h2]
  rw [if_neg e]
  clear e
  go_enter Tryz.func215,Tryz.ntmps215
  go_wp2
  exact bodyPost_ret (v:=.agg #[.int .i64 a,.int .i64 b,.int .i64 c,.int .i64 d]) (by simp [results,Tryz.results215,go_sem]) rfl ⟨rfl,_,_,_,rfl⟩
def eA (a b c d:Int):Int:=if lessB c d a b=true then c else a
def eB (a b c d:Int):Int:=if lessB c d a b=true then d else b
def eC (a b c d:Int):Int:=if lessB c d a b=true then a else c
def eD (a b c d:Int):Int:=if lessB c d a b=true then b else d
theorem edge_num (a b c d:Int) (w:World) :
  Calls Tryz.prog 215 #[.agg #[.int .i64 a,.int .i64 b],.agg #[.int .i64 c,.int .i64 d]] w fun r w'=>r=.returned (.agg #[.int .i64 (eA a b c d),.int .i64 (eB a b c d),.int .i64 (eC a b c d),.int .i64 (eD a b c d)])∧∃ o1 o2 o3,w'=((w.alloc o1).alloc o2).alloc o3:=by
 refine (edge_any a b c d w).mono ?_
 rintro r w' ⟨rfl,h⟩
 refine ⟨?_,h⟩
 cases e:lessB c d a b <;> simp [eA,eB,eC,eD,e]
theorem edgeOf_num (a b c d:Int) (w:World) :
  Calls Tryz.prog 79 #[.agg #[.int .i64 a,.int .i64 b],.agg #[.int .i64 c,.int .i64 d]] w fun r w'=>r=.returned (.agg #[.int .i64 (eA a b c d),.int .i64 (eB a b c d),.int .i64 (eC a b c d),.int .i64 (eD a b c d)])∧∃ o1 o2 o3 o4 o5,w'=((((w.alloc o1).alloc o2).alloc o3).alloc o4).alloc o5:=by
 cases e:lessB c d a b
 ·refine (edgeOf_keep a b c d w e).mono ?_
  rintro r w' ⟨rfl,h⟩
  exact ⟨by simp [eA,eB,eC,eD,e],h⟩
 ·refine (edgeOf_turn a b c d w e).mono ?_
  rintro r w' ⟨rfl,h⟩
  exact ⟨by simp [eA,eB,eC,eD,e],h⟩
open Go.RowKit
attribute [local go_sem ↓] Go.wp_at_zero Go.wp_at_succ
set_option maxRecDepth 100000 in
set_option maxHeartbeats 3200000 in
theorem edges_any (x y k:Int) (w:World) (h:triB x y k=true) (hs:Steps w) :
  Calls Tryz.prog 204 #[.agg #[.int .i64 x,.int .i64 y,.int .i64 k]] w fun r w'=>r=.returned (.agg #[
   .int .i64 (eA (2*x+1) (2*y+1) (c1x x k) (c1y y k)),.int .i64 (eB (2*x+1) (2*y+1) (c1x x k) (c1y y k)),.int .i64 (eC (2*x+1) (2*y+1) (c1x x k) (c1y y k)),.int .i64 (eD (2*x+1) (2*y+1) (c1x x k) (c1y y k)),
   .int .i64 (eA (c1x x k) (c1y y k) (c2x x k) (c2y y k)),.int .i64 (eB (c1x x k) (c1y y k) (c2x x k) (c2y y k)),.int .i64 (eC (c1x x k) (c1y y k) (c2x x k) (c2y y k)),.int .i64 (eD (c1x x k) (c1y y k) (c2x x k) (c2y y k)),
   .int .i64 (eA (c2x x k) (c2y y k) (2*x+1) (2*y+1)),.int .i64 (eB (c2x x k) (c2y y k) (2*x+1) (2*y+1)),.int .i64 (eC (c2x x k) (c2y y k) (2*x+1) (2*y+1)),.int .i64 (eD (c2x x k) (c2y y k) (2*x+1) (2*y+1))])∧Below w.heap.size w w':=by
 have HS:Hid (Steps w):=hs
 clear hs
 go_enter Tryz.func204,Tryz.ntmps204
 go_wp2_with (go_at_call 91;refine (corners_any _ _ _ _ h (HS.out.kept (bl_alloc (bl_alloc (bl_refl _))))).mono ?_;rintro r w1 ⟨rfl,hb⟩;have r0:w1.cell? ⟨w.heap.size+1,0,none⟩=some (.int .i64 0):=cell_kept hb (by simp [go_sem]);have f0:w1.frozen? ⟨w.heap.size+1,0,none⟩=false:=(hb.frozen (p:=⟨w.heap.size+1,0,none⟩) (by simp)).trans (by simp [go_sem]);have r1:w1.cell? ⟨w.heap.size+1,1,none⟩=some (.int .i64 0):=cell_kept hb (by simp [go_sem]);have f1:w1.frozen? ⟨w.heap.size+1,1,none⟩=false:=(hb.frozen (p:=⟨w.heap.size+1,1,none⟩) (by simp)).trans (by simp [go_sem]);have r2:w1.cell? ⟨w.heap.size+1,2,none⟩=some (.int .i64 0):=cell_kept hb (by simp [go_sem]);have f2:w1.frozen? ⟨w.heap.size+1,2,none⟩=false:=(hb.frozen (p:=⟨w.heap.size+1,2,none⟩) (by simp)).trans (by simp [go_sem]);have r3:w1.cell? ⟨w.heap.size+1,3,none⟩=some (.int .i64 0):=cell_kept hb (by simp [go_sem]);have f3:w1.frozen? ⟨w.heap.size+1,3,none⟩=false:=(hb.frozen (p:=⟨w.heap.size+1,3,none⟩) (by simp)).trans (by simp [go_sem]);have r4:w1.cell? ⟨w.heap.size+1,4,none⟩=some (.int .i64 0):=cell_kept hb (by simp [go_sem]);have f4:w1.frozen? ⟨w.heap.size+1,4,none⟩=false:=(hb.frozen (p:=⟨w.heap.size+1,4,none⟩) (by simp)).trans (by simp [go_sem]);have r5:w1.cell? ⟨w.heap.size+1,5,none⟩=some (.int .i64 0):=cell_kept hb (by simp [go_sem]);have f5:w1.frozen? ⟨w.heap.size+1,5,none⟩=false:=(hb.frozen (p:=⟨w.heap.size+1,5,none⟩) (by simp)).trans (by simp [go_sem]);have r6:w1.cell? ⟨w.heap.size+1,6,none⟩=some (.int .i64 0):=cell_kept hb (by simp [go_sem]);have f6:w1.frozen? ⟨w.heap.size+1,6,none⟩=false:=(hb.frozen (p:=⟨w.heap.size+1,6,none⟩) (by simp)).trans (by simp [go_sem]);have r7:w1.cell? ⟨w.heap.size+1,7,none⟩=some (.int .i64 0):=cell_kept hb (by simp [go_sem]);have f7:w1.frozen? ⟨w.heap.size+1,7,none⟩=false:=(hb.frozen (p:=⟨w.heap.size+1,7,none⟩) (by simp)).trans (by simp [go_sem]);have r8:w1.cell? ⟨w.heap.size+1,8,none⟩=some (.int .i64 0):=cell_kept hb (by simp [go_sem]);have f8:w1.frozen? ⟨w.heap.size+1,8,none⟩=false:=(hb.frozen (p:=⟨w.heap.size+1,8,none⟩) (by simp)).trans (by simp [go_sem]);have r9:w1.cell? ⟨w.heap.size+1,9,none⟩=some (.int .i64 0):=cell_kept hb (by simp [go_sem]);have f9:w1.frozen? ⟨w.heap.size+1,9,none⟩=false:=(hb.frozen (p:=⟨w.heap.size+1,9,none⟩) (by simp)).trans (by simp [go_sem]);have r10:w1.cell? ⟨w.heap.size+1,10,none⟩=some (.int .i64 0):=cell_kept hb (by simp [go_sem]);have f10:w1.frozen? ⟨w.heap.size+1,10,none⟩=false:=(hb.frozen (p:=⟨w.heap.size+1,10,none⟩) (by simp)).trans (by simp [go_sem]);have r11:w1.cell? ⟨w.heap.size+1,11,none⟩=some (.int .i64 0):=cell_kept hb (by simp [go_sem]);have f11:w1.frozen? ⟨w.heap.size+1,11,none⟩=false:=(hb.frozen (p:=⟨w.heap.size+1,11,none⟩) (by simp)).trans (by simp [go_sem]);have z0:w.heap.size+1<w1.heap.size:=World.block_lt_of_cell? (w:=w1) (a:=⟨w.heap.size+1,0,none⟩) r0;have z1:w.heap.size+1<w1.heap.size+1:=(by omega);have z2:w.heap.size+1<w1.heap.size+1+1:=(by omega);have z3:w.heap.size+1<w1.heap.size+1+1+1:=(by omega);have z4:w.heap.size+1<w1.heap.size+1+1+1+1:=(by omega);have z5:w.heap.size+1<w1.heap.size+1+1+1+1+1:=(by omega);have z6:w.heap.size+1<w1.heap.size+1+1+1+1+1+1:=(by omega);have z7:w.heap.size+1<w1.heap.size+1+1+1+1+1+1+1:=(by omega);have z8:w.heap.size+1<w1.heap.size+1+1+1+1+1+1+1+1:=(by omega);have z9:w.heap.size+1<w1.heap.size+1+1+1+1+1+1+1+1+1:=(by omega);have z10:w.heap.size+1<w1.heap.size+1+1+1+1+1+1+1+1+1+1:=(by omega);have z11:w.heap.size+1<w1.heap.size+1+1+1+1+1+1+1+1+1+1+1:=(by omega);have HB:Hid (Below w.heap.size w w1):=bl_via (bl_alloc (bl_alloc (bl_refl _))) hb;clear hb)
 go_region_held3 (fun w'=>w'.cell? ⟨w1.heap.size,0,none⟩=some (.int .i64 (2*x+1))∧w'.cell? ⟨w1.heap.size,1,none⟩=some (.int .i64 (2*y+1))∧w'.cell? ⟨w1.heap.size,2,none⟩=some (.int .i64 (c1x x k))∧w'.cell? ⟨w1.heap.size,3,none⟩=some (.int .i64 (c1y y k))∧w'.cell? ⟨w1.heap.size,4,none⟩=some (.int .i64 (c2x x k))∧w'.cell? ⟨w1.heap.size,5,none⟩=some (.int .i64 (c2y y k)))
  ((refine ⟨?_, ?_, ?_, ?_, ?_, ?_⟩ <;> (first | (simp [go_sem];done) | (simp [go_sem,World.cell?_alloc_past];done) | (repeat' (first | (with_reducible refine set_far ?_ ?_) | (dsimp only;omega) | (simp [go_sem,World.cell?_alloc_past];done))))))
  (first | (go_at_call 215;refine (edge_num _ _ _ _ _).mono ?_;rintro r w2 ⟨rfl,o3,o4,o5,rfl⟩))
 go_wp2
 refine bodyPost_ret (v:=.agg #[ .int .i64 (eA (2*x+1) (2*y+1) (c1x x k) (c1y y k)),.int .i64 (eB (2*x+1) (2*y+1) (c1x x k) (c1y y k)),.int .i64 (eC (2*x+1) (2*y+1) (c1x x k) (c1y y k)),.int .i64 (eD (2*x+1) (2*y+1) (c1x x k) (c1y y k)),.int .i64 (eA (c1x x k) (c1y y k) (c2x x k) (c2y y k)),.int .i64 (eB (c1x x k) (c1y y k) (c2x x k) (c2y y k)),.int .i64 (eC (c1x x k) (c1y y k) (c2x x k) (c2y y k)),.int .i64 (eD (c1x x k) (c1y y k) (c2x x k) (c2y y k)),.int .i64 (eA (c2x x k) (c2y y k) (2*x+1) (2*y+1)),.int .i64 (eB (c2x x k) (c2y y k) (2*x+1) (2*y+1)),.int .i64 (eC (c2x x k) (c2y y k) (2*x+1) (2*y+1)),.int .i64 (eD (c2x x k) (c2y y k) (2*x+1) (2*y+1))]) ?_ rfl ⟨rfl, ?_⟩
 ·simp [results,Tryz.results204,go_sem,World.cell?_alloc_past, *]
 ·with_reducible repeat' (first | exact HB.out | refine bl_set ?_ ?_ | refine bl_alloc ?_ | refine bl_drew ?_)
  all_goals (dsimp only;omega)
end Go.Proofs.YtgpjaecgkkgehaaGreatDoor
