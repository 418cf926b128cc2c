/- Maps that may be: what the grid's and the reference's look at a map answer. -/
import Derived.Test.YtmjhfdohcghhoaaGreatDoorQlaa
namespace Go.Proofs.YtmjhfdohcghhoaaGreatDoor
open Go.RowKit

def mapB (a b c d e f : Int) : Bool := ((unitB a && decide (b = 0) && decide (c = 0) && unitB d) || (decide (a = 0) && unitB b && unitB c && decide (d = 0))) && evenB e && evenB f

set_option maxHeartbeats 3200000 in
theorem mayMap_any (a b c d e f : Int) (w : World) :
    Calls Tryz.prog 120 #[.agg #[.int .i64 a, .int .i64 b, .int .i64 c, .int .i64 d, .int .i64 e, .int .i64 f]] w fun r w' => r = .returned (.bool (mapB a b c d e f)) ∧ ∃ o, w' = w.alloc o := by
  go_enter Tryz.func120, Tryz.ntmps120
  go_wp2_with (first | (go_at_call 134; refine (unit_any _ _).mono ?_; rintro e w' ⟨rfl, rfl⟩) | (go_at_call 125; refine (evenPlace_any _ _).mono ?_; rintro e w' ⟨rfl, rfl⟩))
  all_goals
    go_ret
    exact ⟨ret_bool (by simp_all [mapB]), _, rfl⟩
end Go.Proofs.YtmjhfdohcghhoaaGreatDoor
