/- A part of the proof of foldFlat_holds. -/
import Derived.Test.YtgpjaecgkkgehaaGreatDoorQfae
import Derived.Test.YtgpjaecgkkgehaaGreatDoorQfac
import Derived.Test.YtgpjaecgkkgehaaGreatDoorQfaa
namespace Go.Proofs.YtgpjaecgkkgehaaGreatDoor
open Go.RowKit
set_option maxRecDepth 100000 in
set_option maxHeartbeats 1600000 in
theorem hasEdge_a (x y k p q r s:Int) (w:World) (b1 : -4000000≤x) (b2:x≤4000000) (b3 : -4000000≤y) (b4:y≤4000000) (k0:0≤k) (k3:k≤3) (h0:sameB (ue0 x y k) (ue1 x y k) (ue2 x y k) (ue3 x y k) p q r s=true) :
  Calls Tryz.prog 76 #[.agg #[.int .i64 x,.int .i64 y,.int .i64 k],.agg #[.int .i64 p,.int .i64 q,.int .i64 r,.int .i64 s]] w fun e w'=>e=.returned (.bool true)∧Below w.heap.size w w':=by
 have C12:Hid (∀ W:World,Calls Tryz.prog 39 #[.agg #[.int .i64 x,.int .i64 y,.int .i64 k]] W fun e w'=>∃ g,e=.returned (.slice (some ⟨g,0,none⟩) 3 3)∧W.heap.size≤g∧Twl w' g (ue0 x y k) (ue1 x y k) (ue2 x y k) (ue3 x y k) (ue4 x y k) (ue5 x y k) (ue6 x y k) (ue7 x y k) (ue8 x y k) (ue9 x y k) (ue10 x y k) (ue11 x y k)∧Below W.heap.size W w'):=fun W=>edgesOf_any x y k W b1 b2 b3 b4 k0 k3
 clear b1 b2 b3 b4 k0 k3
 have he:=eql27
 go_enter Tryz.func76,Tryz.ntmps76
 go_wp2_with (go_at_call 39;refine (C12.out _).mono ?_;rintro r w1 ⟨g,rfl,hg,hM,hb⟩;have c0:w1.cell? ⟨w.heap.size+1,0,none⟩=some (.int .i64 p):=cl_kept hb (by simp [go_sem]);have c1:w1.cell? ⟨w.heap.size+1,1,none⟩=some (.int .i64 q):=cl_kept hb (by simp [go_sem]);have c2:w1.cell? ⟨w.heap.size+1,2,none⟩=some (.int .i64 r):=cl_kept hb (by simp [go_sem]);have c3:w1.cell? ⟨w.heap.size+1,3,none⟩=some (.int .i64 s):=cl_kept hb (by simp [go_sem]);have HB:Hid (Below w.heap.size w w1):=bl_via (bl_alloc (bl_alloc (bl_refl _))) hb;clear hb hg;obtain ⟨m0,m1,m2,m3,m4,m5,m6,m7,m8,m9,m10,m11⟩:=hM)
 go_quiet (fail)
 go_wp2
 go_ret
 refine ⟨rfl, ?_⟩
 with_reducible repeat' (first | exact HB.out | refine bl_alloc ?_ | refine bl_drewN ?_ | refine bl_drew ?_)
set_option maxRecDepth 100000 in
set_option maxHeartbeats 1600000 in
theorem hasEdge_b (x y k p q r s:Int) (w:World) (b1 : -4000000≤x) (b2:x≤4000000) (b3 : -4000000≤y) (b4:y≤4000000) (k0:0≤k) (k3:k≤3) (h0:sameB (ue0 x y k) (ue1 x y k) (ue2 x y k) (ue3 x y k) p q r s=false) (h1:sameB (ue4 x y k) (ue5 x y k) (ue6 x y k) (ue7 x y k) p q r s=true) :
  Calls Tryz.prog 76 #[.agg #[.int .i64 x,.int .i64 y,.int .i64 k],.agg #[.int .i64 p,.int .i64 q,.int .i64 r,.int .i64 s]] w fun e w'=>e=.returned (.bool true)∧Below w.heap.size w w':=by
 have C12:Hid (∀ W:World,Calls Tryz.prog 39 #[.agg #[.int .i64 x,.int .i64 y,.int .i64 k]] W fun e w'=>∃ g,e=.returned (.slice (some ⟨g,0,none⟩) 3 3)∧W.heap.size≤g∧Twl w' g (ue0 x y k) (ue1 x y k) (ue2 x y k) (ue3 x y k) (ue4 x y k) (ue5 x y k) (ue6 x y k) (ue7 x y k) (ue8 x y k) (ue9 x y k) (ue10 x y k) (ue11 x y k)∧Below W.heap.size W w'):=fun W=>edgesOf_any x y k W b1 b2 b3 b4 k0 k3
 clear b1 b2 b3 b4 k0 k3
 have he:=eql27
 go_enter Tryz.func76,Tryz.ntmps76
 go_wp2_with (go_at_call 39;refine (C12.out _).mono ?_;rintro r w1 ⟨g,rfl,hg,hM,hb⟩;have c0:w1.cell? ⟨w.heap.size+1,0,none⟩=some (.int .i64 p):=cl_kept hb (by simp [go_sem]);have c1:w1.cell? ⟨w.heap.size+1,1,none⟩=some (.int .i64 q):=cl_kept hb (by simp [go_sem]);have c2:w1.cell? ⟨w.heap.size+1,2,none⟩=some (.int .i64 r):=cl_kept hb (by simp [go_sem]);have c3:w1.cell? ⟨w.heap.size+1,3,none⟩=some (.int .i64 s):=cl_kept hb (by simp [go_sem]);have HB:Hid (Below w.heap.size w w1):=bl_via (bl_alloc (bl_alloc (bl_refl _))) hb;clear hb hg;obtain ⟨m0,m1,m2,m3,m4,m5,m6,m7,m8,m9,m10,m11⟩:=hM)
 go_quiet (fail)
 go_wp2
 go_ret
 refine ⟨rfl, ?_⟩
 with_reducible repeat' (first | exact HB.out | refine bl_alloc ?_ | refine bl_drewN ?_ | refine bl_drew ?_)
set_option maxRecDepth 100000 in
set_option maxHeartbeats 1600000 in
theorem hasEdge_c (x y k p q r s:Int) (w:World) (b1 : -4000000≤x) (b2:x≤4000000) (b3 : -4000000≤y) (b4:y≤4000000) (k0:0≤k) (k3:k≤3) (h0:sameB (ue0 x y k) (ue1 x y k) (ue2 x y k) (ue3 x y k) p q r s=false) (h1:sameB (ue4 x y k) (ue5 x y k) (ue6 x y k) (ue7 x y k) p q r s=false) :
  Calls Tryz.prog 76 #[.agg #[.int .i64 x,.int .i64 y,.int .i64 k],.agg #[.int .i64 p,.int .i64 q,.int .i64 r,.int .i64 s]] w fun e w'=>e=.returned (.bool (sameB (ue8 x y k) (ue9 x y k) (ue10 x y k) (ue11 x y k) p q r s))∧Below w.heap.size w w':=by
 have C12:Hid (∀ W:World,Calls Tryz.prog 39 #[.agg #[.int .i64 x,.int .i64 y,.int .i64 k]] W fun e w'=>∃ g,e=.returned (.slice (some ⟨g,0,none⟩) 3 3)∧W.heap.size≤g∧Twl w' g (ue0 x y k) (ue1 x y k) (ue2 x y k) (ue3 x y k) (ue4 x y k) (ue5 x y k) (ue6 x y k) (ue7 x y k) (ue8 x y k) (ue9 x y k) (ue10 x y k) (ue11 x y k)∧Below W.heap.size W w'):=fun W=>edgesOf_any x y k W b1 b2 b3 b4 k0 k3
 clear b1 b2 b3 b4 k0 k3
 have he:=eql27
 go_enter Tryz.func76,Tryz.ntmps76
 go_wp2_with (go_at_call 39;refine (C12.out _).mono ?_;rintro r w1 ⟨g,rfl,hg,hM,hb⟩;have c0:w1.cell? ⟨w.heap.size+1,0,none⟩=some (.int .i64 p):=cl_kept hb (by simp [go_sem]);have c1:w1.cell? ⟨w.heap.size+1,1,none⟩=some (.int .i64 q):=cl_kept hb (by simp [go_sem]);have c2:w1.cell? ⟨w.heap.size+1,2,none⟩=some (.int .i64 r):=cl_kept hb (by simp [go_sem]);have c3:w1.cell? ⟨w.heap.size+1,3,none⟩=some (.int .i64 s):=cl_kept hb (by simp [go_sem]);have HB:Hid (Below w.heap.size w w1):=bl_via (bl_alloc (bl_alloc (bl_refl _))) hb;clear hb hg;obtain ⟨m0,m1,m2,m3,m4,m5,m6,m7,m8,m9,m10,m11⟩:=hM)
 go_quiet (fail)
 go_wp2
 go_ret
 refine ⟨rfl, ?_⟩
 with_reducible repeat' (first | exact HB.out | refine bl_alloc ?_ | refine bl_drewN ?_ | refine bl_drew ?_)
theorem hasEdge_any (x y k p q r s:Int) (w:World) (b1 : -4000000≤x) (b2:x≤4000000) (b3 : -4000000≤y) (b4:y≤4000000) (k0:0≤k) (k3:k≤3) :
  Calls Tryz.prog 76 #[.agg #[.int .i64 x,.int .i64 y,.int .i64 k],.agg #[.int .i64 p,.int .i64 q,.int .i64 r,.int .i64 s]] w fun e w'=>e=.returned (.bool (hasB x y k p q r s))∧Below w.heap.size w w':=by
 have E0:e0 x y k p q r s=sameB (ue0 x y k) (ue1 x y k) (ue2 x y k) (ue3 x y k) p q r s:=rfl
 have E1:e1 x y k p q r s=sameB (ue4 x y k) (ue5 x y k) (ue6 x y k) (ue7 x y k) p q r s:=rfl
 have E2:e2 x y k p q r s=sameB (ue8 x y k) (ue9 x y k) (ue10 x y k) (ue11 x y k) p q r s:=rfl
 unfold hasB
 rw [E0,E1,E2]
 cases h0:sameB (ue0 x y k) (ue1 x y k) (ue2 x y k) (ue3 x y k) p q r s
 ·cases h1:sameB (ue4 x y k) (ue5 x y k) (ue6 x y k) (ue7 x y k) p q r s
  ·exact hasEdge_c x y k p q r s w b1 b2 b3 b4 k0 k3 h0 h1
  ·exact hasEdge_b x y k p q r s w b1 b2 b3 b4 k0 k3 h0 h1
 ·exact hasEdge_a x y k p q r s w b1 b2 b3 b4 k0 k3 h0
open Go.RowKit
def mapB (a b c d e f:Int):Bool:=((unitB a && decide (b=0) && decide (c=0) && unitB d) || (decide (a=0) && unitB b && unitB c && decide (d=0))) && evenB e && evenB f
set_option maxHeartbeats 3200000 in
theorem mayMap_any (a b c d e f:Int) (w:World) :
  Calls Tryz.prog 135 #[.agg #[.int .i64 a,.int .i64 b,.int .i64 c,.int .i64 d,.int .i64 e,.int .i64 f]] w fun r w'=>r=.returned (.bool (mapB a b c d e f))∧∃ o,w'=w.alloc o:=by
 go_enter Tryz.func135,Tryz.ntmps135
 go_wp2_with (first | (go_at_call 157;refine (unit_any _ _).mono ?_;rintro e w' ⟨rfl,rfl⟩) | (go_at_call 149;refine (evenPlace_any _ _).mono ?_;rintro e w' ⟨rfl,rfl⟩))
 all_goals
  go_ret
  exact ⟨ret_bool (by simp_all [mapB]),_,rfl⟩
open Go.RowKit
theorem line_bd {v c:Int} (h:lineB v c=true):0≤v∧v≤3∧-1000000≤c∧c≤1000000∧c % 2=0:=by simpa [lineB] using h
def mA (v:Int):Int:=if v=0 then -1 else if v=1 then 1 else 0
def mB (v:Int):Int:=if v=0∨v=1 then 0 else if v=2 then -1 else 1
def mD (v:Int):Int:=if v=0 then 1 else if v=1 then -1 else 0
def mE (v c:Int):Int:=if v=0 then 2*c else if v=1 then 0 else c
def mF (v c:Int):Int:=if v=0 then 0 else if v=1 then 2*c else if v=2 then c else -c
theorem ret_agg6 {a b c d e f a' b' c' d' e' f':Int} (h1:a=a') (h2:b=b') (h3:c=c') (h4:d=d') (h5:e=e') (h6:f=f') :
  Ending.returned (.agg #[.int .i64 a,.int .i64 b,.int .i64 c,.int .i64 d,.int .i64 e,.int .i64 f])=.returned (.agg #[.int .i64 a',.int .i64 b',.int .i64 c',.int .i64 d',.int .i64 e',.int .i64 f']):=by subst h1 h2 h3 h4 h5 h6;rfl
set_option maxHeartbeats 1600000 in
theorem mirror_any (v c:Int) (w:World) (h:lineB v c=true) :
  Calls Tryz.prog 189 #[.agg #[.int .i64 v,.int .i64 c]] w fun r w'=>r=.returned (.agg #[.int .i64 (mA v),.int .i64 (mB v),.int .i64 (mB v),.int .i64 (mD v),.int .i64 (mE v c),.int .i64 (mF v c)])∧∃ o1 o2,w'=(w.alloc o1).alloc o2:=by
 obtain ⟨h0,h3,b1,b2,_⟩:=line_bd h
 have hv:v=0∨v=1∨v=2∨v=3:=by omega
 clear h
 rcases hv with rfl | rfl | rfl | rfl
 all_goals
  go_enter Tryz.func189,Tryz.ntmps189
  go_wp2
  refine bodyPost_ret (v:=.agg #[_,_,_,_,_,_]) (by simp [results,Tryz.results189,go_sem];exact ⟨rfl,rfl,rfl,rfl,rfl,rfl⟩) rfl ⟨?_,_,_,rfl⟩
  exact ret_agg6 (by simp [mA]) (by simp [mB]) (by simp [mB]) (by simp [mD]) (by simp [mE]) (by simp [mF])
theorem sized_yes (a b c d e f:Int) (w:World) (h:mapB a b c d e f=true) :
  Calls Tryz.prog 188 #[.agg #[.int .i64 a,.int .i64 b,.int .i64 c,.int .i64 d,.int .i64 e,.int .i64 f]] w fun r w'=>r=.returned (.tuple #[.agg #[.int .i64 a,.int .i64 b,.int .i64 c,.int .i64 d,.int .i64 e,.int .i64 f],.int .i64 0])∧∃ o1 o2 o3,w'=((w.alloc o1).alloc o2).alloc o3:=by
 go_enter Tryz.func188,Tryz.ntmps188
 go_wp2_with (go_at_call 135;refine (mayMap_any _ _ _ _ _ _ _).mono ?_;rintro e w' ⟨rfl,o1,rfl⟩)
 exact bodyPost_ret (v:=.tuple #[.agg #[.int .i64 a,.int .i64 b,.int .i64 c,.int .i64 d,.int .i64 e,.int .i64 f],.int .i64 0]) (by simp [results,Tryz.results188,go_sem]) rfl ⟨rfl,_,_,_,rfl⟩
open Go.RowKit
theorem make_func (fn:Fn) (first cap:Array Value) (w:World):(Instr.makeFunc fn first cap).run Tryz.prog w=.ok (.func fn first cap) w:=rfl
theorem mirror1_yes (v c:Int) (p:Nat) (w:World) (h:lineB v c=true) (hm:mapB (mA v) (mB v) (mB v) (mD v) (mE v c) (mF v c)=true) (hp0:w.cell? ⟨p,0,none⟩=some (.int .i64 v)) (hp1:w.cell? ⟨p,1,none⟩=some (.int .i64 c)) :
  Calls Tryz.prog 187 #[.pointer (some ⟨p,0,none⟩)] w fun r w'=>r=.returned (.tuple #[.agg #[.int .i64 (mA v),.int .i64 (mB v),.int .i64 (mB v),.int .i64 (mD v),.int .i64 (mE v c),.int .i64 (mF v c)],.int .i64 0])∧∃ o1 o2 o3 o4 o5 o6,w'=(((((w.alloc o1).alloc o2).alloc o3).alloc o4).alloc o5).alloc o6:=by
 have hz:=World.block_lt_of_cell? _ _ hp0
 go_enter Tryz.func187,Tryz.ntmps187
 go_wp2_with (first | (go_at_call 189;refine (mirror_any _ _ _ h).mono ?_;rintro e w' ⟨rfl,o1,o2,rfl⟩) | (go_at_call 188;refine (sized_yes _ _ _ _ _ _ _ hm).mono ?_;rintro e w' ⟨rfl,o3,o4,o5,rfl⟩))
 exact bodyPost_ret (v:=.tuple #[.agg #[.int .i64 (mA v),.int .i64 (mB v),.int .i64 (mB v),.int .i64 (mD v),.int .i64 (mE v c),.int .i64 (mF v c)],.int .i64 0]) (by simp [results,Tryz.results187,go_sem,World.cell?_alloc_past]) rfl ⟨rfl,_,_,_,_,_,_,rfl⟩
theorem answerMirror_yes (v c:Int) (p:Nat) (w:World) (h:lineB v c=true) (hm:mapB (mA v) (mB v) (mB v) (mD v) (mE v c) (mF v c)=true) (hp0:w.cell? ⟨p,0,none⟩=some (.int .i64 v)) (hp1:w.cell? ⟨p,1,none⟩=some (.int .i64 c)) :
  Calls Tryz.prog 186 #[.bool true,.func (.func 187) #[] #[.pointer (some ⟨p,0,none⟩)]] w fun r w'=>r=.returned (.tuple #[.agg #[.int .i64 (mA v),.int .i64 (mB v),.int .i64 (mB v),.int .i64 (mD v),.int .i64 (mE v c),.int .i64 (mF v c)],.int .i64 0])∧∃ o1 o2 o3 o4 o5 o6 o7 o8 o9,w'=((((((((w.alloc o1).alloc o2).alloc o3).alloc o4).alloc o5).alloc o6).alloc o7).alloc o8).alloc o9:=by
 have hz:=World.block_lt_of_cell? _ _ hp0
 go_enter Tryz.func186,Tryz.ntmps186
 go_wp2_with (go_at_call 187;refine (mirror1_yes v c p _ h hm (by simp [go_sem,World.cell?_alloc_past, *]) (by simp [go_sem,World.cell?_alloc_past, *])).mono ?_;rintro e w' ⟨rfl,o1,o2,o3,o4,o5,o6,rfl⟩)
 exact bodyPost_ret (v:=.tuple #[.agg #[.int .i64 (mA v),.int .i64 (mB v),.int .i64 (mB v),.int .i64 (mD v),.int .i64 (mE v c),.int .i64 (mF v c)],.int .i64 0]) (by simp [results,Tryz.results186,go_sem,World.cell?_alloc_past]) rfl ⟨rfl,_,_,_,_,_,_,_,_,_,rfl⟩
set_option maxHeartbeats 800000 in
theorem Mirror_yes (v c:Int) (w:World) (h:lineB v c=true) (hm:mapB (mA v) (mB v) (mB v) (mD v) (mE v c) (mF v c)=true) :
  Calls Tryz.prog 153 #[.agg #[.int .i64 v,.int .i64 c]] w fun r w'=>r=.returned (.tuple #[.agg #[.int .i64 (mA v),.int .i64 (mB v),.int .i64 (mB v),.int .i64 (mD v),.int .i64 (mE v c),.int .i64 (mF v c)],.int .i64 0])∧Below w.heap.size w w':=by
 have hmf:=make_func
 go_enter Tryz.func153,Tryz.ntmps153
 go_wp2_with (first | (go_at_call 118;refine (mayLine_any _ _ _).mono ?_;rintro e w1 ⟨rfl,o0,rfl⟩) | (go_at_call 186;refine (answerMirror_yes v c _ _ h hm (by simp [go_sem, *]) (by simp [go_sem, *])).mono ?_;rintro e w' ⟨rfl,o1,o2,o3,o4,o5,o6,o7,o8,o9,rfl⟩))
 refine bodyPost_ret (v:=.tuple #[.agg #[.int .i64 (mA v),.int .i64 (mB v),.int .i64 (mB v),.int .i64 (mD v),.int .i64 (mE v c),.int .i64 (mF v c)],.int .i64 0]) (by simp [results,Tryz.results153,go_sem,World.cell?_alloc_past]) rfl ⟨rfl, ?_⟩
 repeat (first | exact Below.refl _ _ | refine Below.alloc ?_ (by first | omega | (simp;omega) | (simp;done)) _)
end Go.Proofs.YtgpjaecgkkgehaaGreatDoor
