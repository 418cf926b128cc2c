/- The reference's corners of a triangle, wherever it lies. -/
import Derived.Test.YtgpjaecgkkgehaaGreatDoorQlah
import Derived.Test.YtgpjaecgkkgehaaGreatDoorQlac
set_option maxRecDepth 100000
set_option maxHeartbeats 40000000
namespace Go.Proofs.YtgpjaecgkkgehaaGreatDoor
open Go.RowKit
theorem Q4 (x y:Int) (w:World) (b1 : -4000000≤x) (b2:x≤4000000) (b3 : -4000000≤y) (b4:y≤4000000) :
  Calls Tryz.prog 78 #[.agg #[.int .i64 x,.int .i64 y,.int .i64 0]] w fun e w'=>∃g,e=.returned (.slice (some ⟨g,0,none⟩) 3 3)∧w.heap.size≤g∧Mp w' g (2*x+1) (2*y+1) (2*x) (2*y) (2*x+2) (2*y)∧Bl w w':=by
 go_enter Tryz.func78,Tryz.ntmps78
 go_wp2
 go_quiet (fail)
 go_wp2
 go_ret
 refine ⟨_,rfl,by omega,?_,?_⟩
 ·simp [Mp,go_sem]
 ·with_reducible repeat (first|refine Qb ?_|refine Qk ?_|exact Qc _)
theorem Jg (x y:Int) (w:World) (b1 : -4000000≤x) (b2:x≤4000000) (b3 : -4000000≤y) (b4:y≤4000000) :
  Calls Tryz.prog 78 #[.agg #[.int .i64 x,.int .i64 y,.int .i64 1]] w fun e w'=>∃g,e=.returned (.slice (some ⟨g,0,none⟩) 3 3)∧w.heap.size≤g∧Mp w' g (2*x+1) (2*y+1) (2*x+2) (2*y) (2*x+2) (2*y+2)∧Bl w w':=by
 go_enter Tryz.func78,Tryz.ntmps78
 go_wp2
 go_quiet (fail)
 go_wp2
 go_ret
 refine ⟨_,rfl,by omega,?_,?_⟩
 ·simp [Mp,go_sem]
 ·with_reducible repeat (first|refine Qb ?_|refine Qk ?_|exact Qc _)
theorem Jv (x y:Int) (w:World) (b1 : -4000000≤x) (b2:x≤4000000) (b3 : -4000000≤y) (b4:y≤4000000) :
  Calls Tryz.prog 78 #[.agg #[.int .i64 x,.int .i64 y,.int .i64 2]] w fun e w'=>∃g,e=.returned (.slice (some ⟨g,0,none⟩) 3 3)∧w.heap.size≤g∧Mp w' g (2*x+1) (2*y+1) (2*x+2) (2*y+2) (2*x) (2*y+2)∧Bl w w':=by
 go_enter Tryz.func78,Tryz.ntmps78
 go_wp2
 go_quiet (fail)
 go_wp2
 go_ret
 refine ⟨_,rfl,by omega,?_,?_⟩
 ·simp [Mp,go_sem]
 ·with_reducible repeat (first|refine Qb ?_|refine Qk ?_|exact Qc _)
theorem Xx (x y:Int) (w:World) (b1 : -4000000≤x) (b2:x≤4000000) (b3 : -4000000≤y) (b4:y≤4000000) :
  Calls Tryz.prog 78 #[.agg #[.int .i64 x,.int .i64 y,.int .i64 3]] w fun e w'=>∃g,e=.returned (.slice (some ⟨g,0,none⟩) 3 3)∧w.heap.size≤g∧Mp w' g (2*x+1) (2*y+1) (2*x) (2*y+2) (2*x) (2*y)∧Bl w w':=by
 go_enter Tryz.func78,Tryz.ntmps78
 go_wp2
 go_quiet (fail)
 go_wp2
 go_ret
 refine ⟨_,rfl,by omega,?_,?_⟩
 ·simp [Mp,go_sem]
 ·with_reducible repeat (first|refine Qb ?_|refine Qk ?_|exact Qc _)
end Go.Proofs.YtgpjaecgkkgehaaGreatDoor
