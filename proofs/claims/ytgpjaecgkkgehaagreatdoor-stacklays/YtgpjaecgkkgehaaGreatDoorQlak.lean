/- Mirrors: what the grid's Mirror and the reference's answer. -/
import Derived.Test.YtgpjaecgkkgehaaGreatDoorQlac
set_option maxRecDepth 100000
set_option maxHeartbeats 40000000
namespace Go.Proofs.YtgpjaecgkkgehaaGreatDoor
open Go.RowKit
theorem line_bd {v c:Int} (h:lineB v c=true):0≤v∧v≤3∧-1000000≤c∧c≤1000000∧c % 2=0:=by simpa [lineB] using h
def mA (v:Int):Int:=if v=0 then -1 else if v=1 then 1 else 0
def mB (v:Int):Int:=if v=0∨v=1 then 0 else if v=2 then -1 else 1
def mD (v:Int):Int:=if v=0 then 1 else if v=1 then -1 else 0
def mE (v c:Int):Int:=if v=0 then 2*c else if v=1 then 0 else c
def mF (v c:Int):Int:=if v=0 then 0 else if v=1 then 2*c else if v=2 then c else -c
theorem ret_agg6 {a b c d e f a' b' c' d' e' f':Int} (h1:a=a') (h2:b=b') (h3:c=c') (h4:d=d') (h5:e=e') (h6:f=f') :
  Ending.returned (.agg #[.int .i64 a,.int .i64 b,.int .i64 c,.int .i64 d,.int .i64 e,.int .i64 f])=.returned (.agg #[.int .i64 a',.int .i64 b',.int .i64 c',.int .i64 d',.int .i64 e',.int .i64 f']):=by subst h1 h2 h3 h4 h5 h6;rfl
theorem mirror_any (v c:Int) (w:World) (h:lineB v c=true) :
  Calls Tryz.prog 189 #[.agg #[.int .i64 v,.int .i64 c]] w fun r w'=>r=.returned (.agg #[.int .i64 (mA v),.int .i64 (mB v),.int .i64 (mB v),.int .i64 (mD v),.int .i64 (mE v c),.int .i64 (mF v c)])∧∃o1 o2,w'=(w.alloc o1).alloc o2:=by
 obtain ⟨h0,h3,b1,b2,_⟩:=line_bd h
 have hv:v=0∨v=1∨v=2∨v=3:=by omega
 clear h
 rcases hv with rfl|rfl|rfl|rfl
 all_goals
  go_enter Tryz.func189,Tryz.ntmps189
  go_wp2
  refine bodyPost_ret (v:=.agg #[_,_,_,_,_,_]) (by simp [results,Tryz.results189,go_sem];exact ⟨rfl,rfl,rfl,rfl,rfl,rfl⟩) rfl ⟨?_,_,_,rfl⟩
  exact ret_agg6 (by simp [mA]) (by simp [mB]) (by simp [mB]) (by simp [mD]) (by simp [mE]) (by simp [mF])
theorem mirrorOf_any (v c:Int) (w:World) (h:lineB v c=true) :
  Calls Tryz.prog 44 #[.agg #[.int .i64 v,.int .i64 c]] w fun r w'=>r=.returned (.agg #[.int .i64 (mA v),.int .i64 (mB v),.int .i64 (mB v),.int .i64 (mD v),.int .i64 (mE v c),.int .i64 (mF v c)])∧∃o1 o2,w'=(w.alloc o1).alloc o2:=by
 obtain ⟨h0,h3,b1,b2,_⟩:=line_bd h
 have hv:v=0∨v=1∨v=2∨v=3:=by omega
 clear h
 rcases hv with rfl|rfl|rfl|rfl
 all_goals
  go_enter Tryz.func44,Tryz.ntmps44
  go_wp2
  refine bodyPost_ret (v:=.agg #[_,_,_,_,_,_]) (by simp [results,Tryz.results44,go_sem];exact ⟨rfl,rfl,rfl,rfl,rfl,rfl⟩) rfl ⟨?_,_,_,rfl⟩
  exact ret_agg6 (by simp [mA]) (by simp [mB]) (by simp [mB]) (by simp [mD]) (by simp [mE]) (by simp [mF])
theorem sized_yes (a b c d e f:Int) (w:World) (h:mapB a b c d e f=true) :
  Calls Tryz.prog 188 #[.agg #[.int .i64 a,.int .i64 b,.int .i64 c,.int .i64 d,.int .i64 e,.int .i64 f]] w fun r w'=>r=.returned (.tuple #[.agg #[.int .i64 a,.int .i64 b,.int .i64 c,.int .i64 d,.int .i64 e,.int .i64 f],.int .i64 0])∧∃o1 o2 o3,w'=((w.alloc o1).alloc o2).alloc o3:=by
 go_enter Tryz.func188,Tryz.ntmps188
 go_wp2_with (go_at_call 135;refine (mayMap_any _ _ _ _ _ _ _).mono ?_;rintro e w' ⟨rfl,o1,rfl⟩)
 exact bodyPost_ret (v:=.tuple #[.agg #[.int .i64 a,.int .i64 b,.int .i64 c,.int .i64 d,.int .i64 e,.int .i64 f],.int .i64 0]) (by simp [results,Tryz.results188,go_sem]) rfl ⟨rfl,_,_,_,rfl⟩
end Go.Proofs.YtgpjaecgkkgehaaGreatDoor
