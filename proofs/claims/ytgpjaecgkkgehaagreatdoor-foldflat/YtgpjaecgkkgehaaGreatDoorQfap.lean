/- A part of the proof of foldFlat_holds. -/
import Derived.Test.YtgpjaecgkkgehaaGreatDoorQfal
import Derived.Test.YtgpjaecgkkgehaaGreatDoorQfae
import Derived.Test.YtgpjaecgkkgehaaGreatDoorQfao
import Derived.Test.YtgpjaecgkkgehaaGreatDoorQfag
import Derived.Test.YtgpjaecgkkgehaaGreatDoorQfam
namespace Go.Proofs.YtgpjaecgkkgehaaGreatDoor
open Go.RowKit
theorem map_bd {a b c d e f:Int} (h:mapB a b c d e f=true):Sm a b c d∧Ef e f∧e % 2=0∧f % 2=0:=by
 simp [mapB,unitB,evenB] at h
 unfold Sm Ef;omega
set_option maxHeartbeats 800000 in
theorem answerMap_55_0 (a b c d e f:Int) (pa pb:Nat) (w:World) (hcall:∀ W:World,Below w.heap.size w W→Calls Tryz.prog 190 #[.pointer (some ⟨pa,0,none⟩),.pointer (some ⟨pb,0,none⟩)] W fun r w'=>r=.returned (.tuple #[.agg #[.int .i64 a,.int .i64 b,.int .i64 c,.int .i64 d,.int .i64 e,.int .i64 f],.int .i64 0])∧Below W.heap.size W w') :
  Calls Tryz.prog 186 #[.bool true,.func (.func 190) #[] #[.pointer (some ⟨pa,0,none⟩),.pointer (some ⟨pb,0,none⟩)]] w fun r w'=>r=.returned (.tuple #[.agg #[.int .i64 a,.int .i64 b,.int .i64 c,.int .i64 d,.int .i64 e,.int .i64 f],.int .i64 0])∧Below w.heap.size w w':=by
 have HC:Hid (∀ W:World,Below w.heap.size w W→Calls Tryz.prog 190 #[.pointer (some ⟨pa,0,none⟩),.pointer (some ⟨pb,0,none⟩)] W fun r w'=>r=.returned (.tuple #[.agg #[.int .i64 a,.int .i64 b,.int .i64 c,.int .i64 d,.int .i64 e,.int .i64 f],.int .i64 0])∧Below W.heap.size W w'):=hcall
 clear hcall
 go_enter Tryz.func186,Tryz.ntmps186
 go_wp2_with (go_at_call 190;refine (HC.out _ (bl_alloc (bl_alloc (bl_refl _)))).mono ?_;rintro r w2 ⟨rfl,hb⟩;have r0:w2.cell? ⟨w.heap.size,0,none⟩=some (.int .i64 0):=cl_kept hb (by first | (simp [go_sem];done) | (simp [go_sem,World.cell?_alloc_past];done));have f0':w2.frozen? ⟨w.heap.size,0,none⟩=false:=(hb.frozen (p:=⟨w.heap.size,0,none⟩) (by simp <;> omega)).trans (by simp [go_sem]);have r1:w2.cell? ⟨w.heap.size,1,none⟩=some (.int .i64 0):=cl_kept hb (by first | (simp [go_sem];done) | (simp [go_sem,World.cell?_alloc_past];done));have f1':w2.frozen? ⟨w.heap.size,1,none⟩=false:=(hb.frozen (p:=⟨w.heap.size,1,none⟩) (by simp <;> omega)).trans (by simp [go_sem]);have r2:w2.cell? ⟨w.heap.size,2,none⟩=some (.int .i64 0):=cl_kept hb (by first | (simp [go_sem];done) | (simp [go_sem,World.cell?_alloc_past];done));have f2':w2.frozen? ⟨w.heap.size,2,none⟩=false:=(hb.frozen (p:=⟨w.heap.size,2,none⟩) (by simp <;> omega)).trans (by simp [go_sem]);have r3:w2.cell? ⟨w.heap.size,3,none⟩=some (.int .i64 0):=cl_kept hb (by first | (simp [go_sem];done) | (simp [go_sem,World.cell?_alloc_past];done));have f3':w2.frozen? ⟨w.heap.size,3,none⟩=false:=(hb.frozen (p:=⟨w.heap.size,3,none⟩) (by simp <;> omega)).trans (by simp [go_sem]);have r4:w2.cell? ⟨w.heap.size,4,none⟩=some (.int .i64 0):=cl_kept hb (by first | (simp [go_sem];done) | (simp [go_sem,World.cell?_alloc_past];done));have f4':w2.frozen? ⟨w.heap.size,4,none⟩=false:=(hb.frozen (p:=⟨w.heap.size,4,none⟩) (by simp <;> omega)).trans (by simp [go_sem]);have r5:w2.cell? ⟨w.heap.size,5,none⟩=some (.int .i64 0):=cl_kept hb (by first | (simp [go_sem];done) | (simp [go_sem,World.cell?_alloc_past];done));have f5':w2.frozen? ⟨w.heap.size,5,none⟩=false:=(hb.frozen (p:=⟨w.heap.size,5,none⟩) (by simp <;> omega)).trans (by simp [go_sem]);have zz0:w.heap.size<w2.heap.size:=World.block_lt_of_cell? (w:=w2) (a:=⟨w.heap.size,0,none⟩) r0;have zz1:w.heap.size<w2.heap.size+1:=(by omega);have zz2:w.heap.size<w2.heap.size+1+1:=(by omega);have zz3:w.heap.size<w2.heap.size+1+1+1:=(by omega);have zz4:w.heap.size<w2.heap.size+1+1+1+1:=(by omega);have zz5:w.heap.size<w2.heap.size+1+1+1+1+1:=(by omega);have HB:Hid (Below w.heap.size w w2):=bl_via (bl_alloc (bl_alloc (bl_refl _))) hb;clear hb)
 refine bodyPost_ret (v:=.tuple #[.agg #[.int .i64 a,.int .i64 b,.int .i64 c,.int .i64 d,.int .i64 e,.int .i64 f],.int .i64 0]) ?_ rfl ⟨rfl, ?_⟩
 ·first | (simp [results,Tryz.results186,go_sem, *];done) | (simp [results,Tryz.results186,go_sem,World.cell?_alloc_past, *];done)
 ·with_reducible repeat' (first | exact HB.out | refine bl_set ?_ ?_ | refine bl_alloc ?_ | refine bl_drew ?_)
  all_goals (first | (simp;done) | (simp;omega))
set_option maxHeartbeats 800000 in
theorem after1_yes (a b c d e f A B C D E F:Int) (pa pb:Nat) (w:World) (h1:mapB a b c d e f=true) (h2:mapB A B C D E F=true) (hm:mapB (dot A B a c) (dot A B b d) (dot C D a c) (dot C D b d) (dot A B e f+E) (dot C D e f+F)=true) (ha:Mp w pa a b c d e f) (hb:Mp w pb A B C D E F) :
  Calls Tryz.prog 190 #[.pointer (some ⟨pa,0,none⟩),.pointer (some ⟨pb,0,none⟩)] w fun r w'=>r=.returned (.tuple #[.agg #[.int .i64 (dot A B a c),.int .i64 (dot A B b d),.int .i64 (dot C D a c),.int .i64 (dot C D b d),.int .i64 (dot A B e f+E),.int .i64 (dot C D e f+F)],.int .i64 0])∧Below w.heap.size w w':=by
 obtain ⟨s1,e1,_,_⟩:=map_bd h1
 obtain ⟨s2,e2,_,_⟩:=map_bd h2
 have za:=ha.lt
 have zb:=hb.lt
 obtain ⟨a0,a1,a2,a3,a4,a5⟩:=ha
 obtain ⟨b0,b1,b2,b3,b4,b5⟩:=hb
 have C56:Hid (∀ W:World,Calls Tryz.prog 191 #[.agg #[.int .i64 a,.int .i64 b,.int .i64 c,.int .i64 d,.int .i64 e,.int .i64 f],.agg #[.int .i64 A,.int .i64 B,.int .i64 C,.int .i64 D,.int .i64 E,.int .i64 F]] W fun r w'=>r=.returned (.agg #[.int .i64 (dot A B a c),.int .i64 (dot A B b d),.int .i64 (dot C D a c),.int .i64 (dot C D b d),.int .i64 (dot A B e f+E),.int .i64 (dot C D e f+F)])∧Below W.heap.size W w'):=fun W=>after_any a b c d e f A B C D E F W s1 s2 e1 e2
 have HM:Hid (mapB (dot A B a c) (dot A B b d) (dot C D a c) (dot C D b d) (dot A B e f+E) (dot C D e f+F)=true):=hm
 clear s1 e1 s2 e2 h1 h2 hm
 go_enter Tryz.func190,Tryz.ntmps190
 go_wp2_with (first | (go_at_call 191;refine (C56.out _).mono ?_;rintro r w2 ⟨rfl,hb⟩;have r0:w2.cell? ⟨w.heap.size,0,none⟩=some (.int .i64 0):=cl_kept hb (by first | (simp [go_sem];done) | (simp [go_sem,World.cell?_alloc_past];done));have f0':w2.frozen? ⟨w.heap.size,0,none⟩=false:=(hb.frozen (p:=⟨w.heap.size,0,none⟩) (by simp <;> omega)).trans (by simp [go_sem]);have r1:w2.cell? ⟨w.heap.size,1,none⟩=some (.int .i64 0):=cl_kept hb (by first | (simp [go_sem];done) | (simp [go_sem,World.cell?_alloc_past];done));have f1':w2.frozen? ⟨w.heap.size,1,none⟩=false:=(hb.frozen (p:=⟨w.heap.size,1,none⟩) (by simp <;> omega)).trans (by simp [go_sem]);have r2:w2.cell? ⟨w.heap.size,2,none⟩=some (.int .i64 0):=cl_kept hb (by first | (simp [go_sem];done) | (simp [go_sem,World.cell?_alloc_past];done));have f2':w2.frozen? ⟨w.heap.size,2,none⟩=false:=(hb.frozen (p:=⟨w.heap.size,2,none⟩) (by simp <;> omega)).trans (by simp [go_sem]);have r3:w2.cell? ⟨w.heap.size,3,none⟩=some (.int .i64 0):=cl_kept hb (by first | (simp [go_sem];done) | (simp [go_sem,World.cell?_alloc_past];done));have f3':w2.frozen? ⟨w.heap.size,3,none⟩=false:=(hb.frozen (p:=⟨w.heap.size,3,none⟩) (by simp <;> omega)).trans (by simp [go_sem]);have r4:w2.cell? ⟨w.heap.size,4,none⟩=some (.int .i64 0):=cl_kept hb (by first | (simp [go_sem];done) | (simp [go_sem,World.cell?_alloc_past];done));have f4':w2.frozen? ⟨w.heap.size,4,none⟩=false:=(hb.frozen (p:=⟨w.heap.size,4,none⟩) (by simp <;> omega)).trans (by simp [go_sem]);have r5:w2.cell? ⟨w.heap.size,5,none⟩=some (.int .i64 0):=cl_kept hb (by first | (simp [go_sem];done) | (simp [go_sem,World.cell?_alloc_past];done));have f5':w2.frozen? ⟨w.heap.size,5,none⟩=false:=(hb.frozen (p:=⟨w.heap.size,5,none⟩) (by simp <;> omega)).trans (by simp [go_sem]);have zz0:w.heap.size<w2.heap.size:=World.block_lt_of_cell? (w:=w2) (a:=⟨w.heap.size,0,none⟩) r0;have zz1:w.heap.size<w2.heap.size+1:=(by omega);have zz2:w.heap.size<w2.heap.size+1+1:=(by omega);have zz3:w.heap.size<w2.heap.size+1+1+1:=(by omega);have zz4:w.heap.size<w2.heap.size+1+1+1+1:=(by omega);have zz5:w.heap.size<w2.heap.size+1+1+1+1+1:=(by omega);have HB:Hid (Below w.heap.size w w2):=bl_via (bl_alloc (bl_refl _)) hb;clear hb) | (go_at_call 188;refine (sized_yes _ _ _ _ _ _ _ HM.out).mono ?_;rintro r w3 ⟨rfl,o1,o2,o3,rfl⟩))
 refine bodyPost_ret (v:=.tuple #[.agg #[.int .i64 (dot A B a c),.int .i64 (dot A B b d),.int .i64 (dot C D a c),.int .i64 (dot C D b d),.int .i64 (dot A B e f+E),.int .i64 (dot C D e f+F)],.int .i64 0]) ?_ rfl ⟨rfl, ?_⟩
 ·first | (simp [results,Tryz.results190,go_sem, *];done) | (simp [results,Tryz.results190,go_sem,World.cell?_alloc_past, *];done)
 ·with_reducible repeat' (first | exact HB.out | refine bl_set ?_ ?_ | refine bl_alloc ?_ | refine bl_drew ?_)
  all_goals (first | (simp;done) | (simp;omega))
set_option maxHeartbeats 800000 in
theorem After_yes (a b c d e f A B C D E F:Int) (w:World) (h1:mapB a b c d e f=true) (h2:mapB A B C D E F=true) (hm:mapB (dot A B a c) (dot A B b d) (dot C D a c) (dot C D b d) (dot A B e f+E) (dot C D e f+F)=true) :
  Calls Tryz.prog 155 #[.agg #[.int .i64 a,.int .i64 b,.int .i64 c,.int .i64 d,.int .i64 e,.int .i64 f],.agg #[.int .i64 A,.int .i64 B,.int .i64 C,.int .i64 D,.int .i64 E,.int .i64 F]] w fun r w'=>r=.returned (.tuple #[.agg #[.int .i64 (dot A B a c),.int .i64 (dot A B b d),.int .i64 (dot C D a c),.int .i64 (dot C D b d),.int .i64 (dot A B e f+E),.int .i64 (dot C D e f+F)],.int .i64 0])∧Below w.heap.size w w':=by
 have hmf:=make_func
 have HM:Hid (mapB (dot A B a c) (dot A B b d) (dot C D a c) (dot C D b d) (dot A B e f+E) (dot C D e f+F)=true):=hm
 clear hm
 go_enter Tryz.func155,Tryz.ntmps155
 go_wp2_with (first | (go_at_call 135;refine (mayMap_any _ _ _ _ _ _ _).mono ?_;rintro r w2 ⟨rfl,o1,rfl⟩) | (go_at_call 186;refine (answerMap_55_0 _ _ _ _ _ _ _ _ _ (fun W hW=>after1_yes a b c d e f A B C D E F _ _ W h1 h2 HM.out (Mp.kept (by simp [Mp,go_sem]) hW) (Mp.kept (by simp [Mp,go_sem]) hW))).mono ?_;rintro r w2 ⟨rfl,hb⟩;have r0:w2.cell? ⟨w.heap.size+1+1,0,none⟩=some (.int .i64 0):=cl_kept hb (by first | (simp [go_sem];done) | (simp [go_sem,World.cell?_alloc_past];done));have f0':w2.frozen? ⟨w.heap.size+1+1,0,none⟩=false:=(hb.frozen (p:=⟨w.heap.size+1+1,0,none⟩) (by simp <;> omega)).trans (by simp [go_sem]);have r1:w2.cell? ⟨w.heap.size+1+1,1,none⟩=some (.int .i64 0):=cl_kept hb (by first | (simp [go_sem];done) | (simp [go_sem,World.cell?_alloc_past];done));have f1':w2.frozen? ⟨w.heap.size+1+1,1,none⟩=false:=(hb.frozen (p:=⟨w.heap.size+1+1,1,none⟩) (by simp <;> omega)).trans (by simp [go_sem]);have r2:w2.cell? ⟨w.heap.size+1+1,2,none⟩=some (.int .i64 0):=cl_kept hb (by first | (simp [go_sem];done) | (simp [go_sem,World.cell?_alloc_past];done));have f2':w2.frozen? ⟨w.heap.size+1+1,2,none⟩=false:=(hb.frozen (p:=⟨w.heap.size+1+1,2,none⟩) (by simp <;> omega)).trans (by simp [go_sem]);have r3:w2.cell? ⟨w.heap.size+1+1,3,none⟩=some (.int .i64 0):=cl_kept hb (by first | (simp [go_sem];done) | (simp [go_sem,World.cell?_alloc_past];done));have f3':w2.frozen? ⟨w.heap.size+1+1,3,none⟩=false:=(hb.frozen (p:=⟨w.heap.size+1+1,3,none⟩) (by simp <;> omega)).trans (by simp [go_sem]);have r4:w2.cell? ⟨w.heap.size+1+1,4,none⟩=some (.int .i64 0):=cl_kept hb (by first | (simp [go_sem];done) | (simp [go_sem,World.cell?_alloc_past];done));have f4':w2.frozen? ⟨w.heap.size+1+1,4,none⟩=false:=(hb.frozen (p:=⟨w.heap.size+1+1,4,none⟩) (by simp <;> omega)).trans (by simp [go_sem]);have r5:w2.cell? ⟨w.heap.size+1+1,5,none⟩=some (.int .i64 0):=cl_kept hb (by first | (simp [go_sem];done) | (simp [go_sem,World.cell?_alloc_past];done));have f5':w2.frozen? ⟨w.heap.size+1+1,5,none⟩=false:=(hb.frozen (p:=⟨w.heap.size+1+1,5,none⟩) (by simp <;> omega)).trans (by simp [go_sem]);have zz0:w.heap.size+1+1<w2.heap.size:=World.block_lt_of_cell? (w:=w2) (a:=⟨w.heap.size+1+1,0,none⟩) r0;have zz1:w.heap.size+1+1<w2.heap.size+1:=(by omega);have zz2:w.heap.size+1+1<w2.heap.size+1+1:=(by omega);have zz3:w.heap.size+1+1<w2.heap.size+1+1+1:=(by omega);have zz4:w.heap.size+1+1<w2.heap.size+1+1+1+1:=(by omega);have zz5:w.heap.size+1+1<w2.heap.size+1+1+1+1+1:=(by omega);have HB:Hid (Below w.heap.size w w2):=bl_via (bl_alloc (bl_alloc (bl_alloc (bl_alloc (bl_alloc (bl_refl _)))))) hb;clear hb))
 refine bodyPost_ret (v:=.tuple #[.agg #[.int .i64 (dot A B a c),.int .i64 (dot A B b d),.int .i64 (dot C D a c),.int .i64 (dot C D b d),.int .i64 (dot A B e f+E),.int .i64 (dot C D e f+F)],.int .i64 0]) ?_ rfl ⟨rfl, ?_⟩
 ·first | (simp [results,Tryz.results155,go_sem, *];done) | (simp [results,Tryz.results155,go_sem,World.cell?_alloc_past, *];done)
 ·with_reducible repeat' (first | exact HB.out | refine bl_set ?_ ?_ | refine bl_alloc ?_ | refine bl_drew ?_)
  all_goals (first | (simp;done) | (simp;omega))
open Go.RowKit
attribute [local go_sem ↓] Go.wp_at_zero Go.wp_at_succ
def Qd (w:World) (g:Nat) (p q r s:Int):Prop:=w.cell? ⟨g,0,none⟩=some (.int .i64 p)∧w.cell? ⟨g,1,none⟩=some (.int .i64 q)∧w.cell? ⟨g,2,none⟩=some (.int .i64 r)∧w.cell? ⟨g,3,none⟩=some (.int .i64 s)
theorem Qd.kept {w wx:World} {g:Nat} {p q r s:Int} (h:Qd w g p q r s) (hb:Below w.heap.size w wx):Qd wx g p q r s:=by
 obtain ⟨h0,h1,h2,h3⟩:=h
 exact ⟨cl_kept hb h0,cl_kept hb h1,cl_kept hb h2,cl_kept hb h3⟩
open Go.RowKit
set_option maxHeartbeats 1600000 in
theorem paperEdges_any (x y k:Int) (w:World) (h:triB x y k=true) (hs:Steps w) :
  Calls Tryz.prog 152 #[.agg #[.int .i64 x,.int .i64 y,.int .i64 k]] w fun e w'=>e=.returned (.agg #[.int .i64 (ue0 x y k),.int .i64 (ue1 x y k),.int .i64 (ue2 x y k),.int .i64 (ue3 x y k),.int .i64 (ue4 x y k),.int .i64 (ue5 x y k),.int .i64 (ue6 x y k),.int .i64 (ue7 x y k),.int .i64 (ue8 x y k),.int .i64 (ue9 x y k),.int .i64 (ue10 x y k),.int .i64 (ue11 x y k)])∧Below w.heap.size w w':=by
 have HS:Hid (Steps w):=hs
 clear hs
 go_enter Tryz.func152,Tryz.ntmps152
 go_wp2_with (go_at_call 185;refine (Edges_yes _ _ _ _ h (HS.out.kept (bl_alloc (bl_alloc (bl_refl _))))).mono ?_;rintro e w2 ⟨rfl,hb⟩;have r0:w2.cell? ⟨w.heap.size+1,0,none⟩=some (.int .i64 0):=cl_kept hb (by first | (simp [go_sem];done) | (simp [go_sem,World.cell?_alloc_past];done));have f0':w2.frozen? ⟨w.heap.size+1,0,none⟩=false:=(hb.frozen (p:=⟨w.heap.size+1,0,none⟩) (by simp <;> omega)).trans (by simp [go_sem]);have r1:w2.cell? ⟨w.heap.size+1,1,none⟩=some (.int .i64 0):=cl_kept hb (by first | (simp [go_sem];done) | (simp [go_sem,World.cell?_alloc_past];done));have f1':w2.frozen? ⟨w.heap.size+1,1,none⟩=false:=(hb.frozen (p:=⟨w.heap.size+1,1,none⟩) (by simp <;> omega)).trans (by simp [go_sem]);have r2:w2.cell? ⟨w.heap.size+1,2,none⟩=some (.int .i64 0):=cl_kept hb (by first | (simp [go_sem];done) | (simp [go_sem,World.cell?_alloc_past];done));have f2':w2.frozen? ⟨w.heap.size+1,2,none⟩=false:=(hb.frozen (p:=⟨w.heap.size+1,2,none⟩) (by simp <;> omega)).trans (by simp [go_sem]);have r3:w2.cell? ⟨w.heap.size+1,3,none⟩=some (.int .i64 0):=cl_kept hb (by first | (simp [go_sem];done) | (simp [go_sem,World.cell?_alloc_past];done));have f3':w2.frozen? ⟨w.heap.size+1,3,none⟩=false:=(hb.frozen (p:=⟨w.heap.size+1,3,none⟩) (by simp <;> omega)).trans (by simp [go_sem]);have r4:w2.cell? ⟨w.heap.size+1,4,none⟩=some (.int .i64 0):=cl_kept hb (by first | (simp [go_sem];done) | (simp [go_sem,World.cell?_alloc_past];done));have f4':w2.frozen? ⟨w.heap.size+1,4,none⟩=false:=(hb.frozen (p:=⟨w.heap.size+1,4,none⟩) (by simp <;> omega)).trans (by simp [go_sem]);have r5:w2.cell? ⟨w.heap.size+1,5,none⟩=some (.int .i64 0):=cl_kept hb (by first | (simp [go_sem];done) | (simp [go_sem,World.cell?_alloc_past];done));have f5':w2.frozen? ⟨w.heap.size+1,5,none⟩=false:=(hb.frozen (p:=⟨w.heap.size+1,5,none⟩) (by simp <;> omega)).trans (by simp [go_sem]);have r6:w2.cell? ⟨w.heap.size+1,6,none⟩=some (.int .i64 0):=cl_kept hb (by first | (simp [go_sem];done) | (simp [go_sem,World.cell?_alloc_past];done));have f6':w2.frozen? ⟨w.heap.size+1,6,none⟩=false:=(hb.frozen (p:=⟨w.heap.size+1,6,none⟩) (by simp <;> omega)).trans (by simp [go_sem]);have r7:w2.cell? ⟨w.heap.size+1,7,none⟩=some (.int .i64 0):=cl_kept hb (by first | (simp [go_sem];done) | (simp [go_sem,World.cell?_alloc_past];done));have f7':w2.frozen? ⟨w.heap.size+1,7,none⟩=false:=(hb.frozen (p:=⟨w.heap.size+1,7,none⟩) (by simp <;> omega)).trans (by simp [go_sem]);have r8:w2.cell? ⟨w.heap.size+1,8,none⟩=some (.int .i64 0):=cl_kept hb (by first | (simp [go_sem];done) | (simp [go_sem,World.cell?_alloc_past];done));have f8':w2.frozen? ⟨w.heap.size+1,8,none⟩=false:=(hb.frozen (p:=⟨w.heap.size+1,8,none⟩) (by simp <;> omega)).trans (by simp [go_sem]);have r9:w2.cell? ⟨w.heap.size+1,9,none⟩=some (.int .i64 0):=cl_kept hb (by first | (simp [go_sem];done) | (simp [go_sem,World.cell?_alloc_past];done));have f9':w2.frozen? ⟨w.heap.size+1,9,none⟩=false:=(hb.frozen (p:=⟨w.heap.size+1,9,none⟩) (by simp <;> omega)).trans (by simp [go_sem]);have r10:w2.cell? ⟨w.heap.size+1,10,none⟩=some (.int .i64 0):=cl_kept hb (by first | (simp [go_sem];done) | (simp [go_sem,World.cell?_alloc_past];done));have f10':w2.frozen? ⟨w.heap.size+1,10,none⟩=false:=(hb.frozen (p:=⟨w.heap.size+1,10,none⟩) (by simp <;> omega)).trans (by simp [go_sem]);have r11:w2.cell? ⟨w.heap.size+1,11,none⟩=some (.int .i64 0):=cl_kept hb (by first | (simp [go_sem];done) | (simp [go_sem,World.cell?_alloc_past];done));have f11':w2.frozen? ⟨w.heap.size+1,11,none⟩=false:=(hb.frozen (p:=⟨w.heap.size+1,11,none⟩) (by simp <;> omega)).trans (by simp [go_sem]);have zz0:w.heap.size+1<w2.heap.size:=World.block_lt_of_cell? (w:=w2) (a:=⟨w.heap.size+1,0,none⟩) r0;have zz1:w.heap.size+1<w2.heap.size+1:=(by omega);have zz2:w.heap.size+1<w2.heap.size+1+1:=(by omega);have zz3:w.heap.size+1<w2.heap.size+1+1+1:=(by omega);have HB:Hid (Below w.heap.size w w2):=bl_via (bl_alloc (bl_alloc (bl_refl _))) hb;clear hb)
 refine bodyPost_ret (v:=.agg #[.int .i64 (ue0 x y k),.int .i64 (ue1 x y k),.int .i64 (ue2 x y k),.int .i64 (ue3 x y k),.int .i64 (ue4 x y k),.int .i64 (ue5 x y k),.int .i64 (ue6 x y k),.int .i64 (ue7 x y k),.int .i64 (ue8 x y k),.int .i64 (ue9 x y k),.int .i64 (ue10 x y k),.int .i64 (ue11 x y k)]) ?_ rfl ⟨rfl, ?_⟩
 ·first | (simp [results,Tryz.results152,go_sem, *];done) | (simp [results,Tryz.results152,go_sem,World.cell?_alloc_past, *];done)
 ·with_reducible repeat' (first | exact HB.out | refine bl_set ?_ ?_ | refine bl_alloc ?_ | refine bl_drew ?_)
  all_goals (first | omega | (simp;done) | (simp;omega))
set_option maxHeartbeats 1600000 in
theorem lay_bad (W H:Int) (a:Option Addr) (cap:Nat) (zs:List Int) (c:Value) (w:World) (hr:Row w a zs) (hc:cellsB W H zs=false) :
  Calls Tryz.prog 65 #[.agg #[.int .i64 W,.int .i64 H,.slice a zs.length cap,c]] w fun e w'=>e=.returned (.tuple #[.agg #[.slice none 0 0,.map none,.map none],.bool false])∧Below w.heap.size w w':=by
 have HR:Hid (Row w a zs):=hr
 clear hr
 cases hW:sideB W
 ·go_enter Tryz.func65,Tryz.ntmps65
  go_wp2_with (go_at_call 97;refine (maySide_any _ _).mono ?_;rintro e w' ⟨rfl,rfl⟩)
  refine bodyPost_ret (v:=.tuple #[.agg #[.slice none 0 0,.map none,.map none],.bool false]) ?_ rfl ⟨rfl, ?_⟩
  ·simp [results,Tryz.results65,go_sem]
  ·with_reducible repeat' (first | exact bl_refl _ | refine bl_alloc ?_)
 cases hH:sideB H
 ·go_enter Tryz.func65,Tryz.ntmps65
  go_wp2_with (go_at_call 97;refine (maySide_any _ _).mono ?_;rintro e w' ⟨rfl,rfl⟩)
  refine bodyPost_ret (v:=.tuple #[.agg #[.slice none 0 0,.map none,.map none],.bool false]) ?_ rfl ⟨rfl, ?_⟩
  ·simp [results,Tryz.results65,go_sem]
  ·with_reducible repeat' (first | exact bl_refl _ | refine bl_alloc ?_)
 by_cases hl:(zs.length:Int)=W*H
 ·have hm:maskB zs=false:=by
   have:=hc
   simp only [cellsB,hW,hH,decide_eq_true hl] at this
   simpa using this
  have HM:Hid (∀ W':World,Below w.heap.size w W'→Calls Tryz.prog 98 #[.agg #[.int .i64 W,.int .i64 H,.slice a zs.length cap,c]] W' fun e w'=>e=.returned (.bool false)∧∃ o,w'=W'.alloc o):=fun W' hW'=>hm ▸ mayMask_any W H a cap zs c W' hW hH (HR.out.kept hW') hl
  clear hm hl hc
  go_enter Tryz.func65,Tryz.ntmps65
  go_wp2_with (first | (go_at_call 97;refine (maySide_any _ _).mono ?_;rintro e w' ⟨rfl,rfl⟩) | (go_at_call 98;refine (HM.out _ (by with_reducible exact bl_alloc (bl_alloc (bl_refl _)))).mono ?_;rintro e w' ⟨rfl,o,rfl⟩))
  refine bodyPost_ret (v:=.tuple #[.agg #[.slice none 0 0,.map none,.map none],.bool false]) ?_ rfl ⟨rfl, ?_⟩
  ·simp [results,Tryz.results65,go_sem]
  ·with_reducible repeat' (first | exact bl_refl _ | refine bl_alloc ?_)
 ·have HM:Hid (∀ W':World,Calls Tryz.prog 98 #[.agg #[.int .i64 W,.int .i64 H,.slice a zs.length cap,c]] W' fun e w'=>e=.returned (.bool false)∧∃ o,w'=W'.alloc o):=fun W'=>mayMask_len W H a cap zs c W' hW hH hl
  clear hl hc
  go_enter Tryz.func65,Tryz.ntmps65
  go_wp2_with (first | (go_at_call 97;refine (maySide_any _ _).mono ?_;rintro e w' ⟨rfl,rfl⟩) | (go_at_call 98;refine (HM.out _).mono ?_;rintro e w' ⟨rfl,o,rfl⟩))
  refine bodyPost_ret (v:=.tuple #[.agg #[.slice none 0 0,.map none,.map none],.bool false]) ?_ rfl ⟨rfl, ?_⟩
  ·simp [results,Tryz.results65,go_sem]
  ·with_reducible repeat' (first | exact bl_refl _ | refine bl_alloc ?_)
set_option maxHeartbeats 1600000 in
theorem sheetMay_bad (W H:Int) (a:Option Addr) (cap:Nat) (zs:List Int) (c:Value) (w:World) (hr:Row w a zs) (hc:cellsB W H zs=false) :
  Calls Tryz.prog 10 #[.agg #[.int .i64 W,.int .i64 H,.slice a zs.length cap,c]] w fun e w'=>e=.returned (.bool false)∧Below w.heap.size w w':=by
 have HC:Hid (∀ W':World,Below w.heap.size w W'→Calls Tryz.prog 34 #[.agg #[.int .i64 W,.int .i64 H,.slice a zs.length cap,c]] W' fun e w'=>e=.returned (.bool false)∧∃ o,w'=W'.alloc o):=fun W' hW'=>hc ▸ cellsMay_any W H a cap zs c W' (hr.kept hW')
 clear hr hc
 go_enter Tryz.func10,Tryz.ntmps10
 go_wp2_with (go_at_call 34;refine (HC.out _ (by with_reducible exact bl_alloc (bl_refl _))).mono ?_;rintro e w2 ⟨rfl,o,rfl⟩)
 go_ret
 exact ⟨rfl,bl_alloc (bl_alloc (bl_refl _))⟩
end Go.Proofs.YtgpjaecgkkgehaaGreatDoor
