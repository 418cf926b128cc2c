/- Maps that may be: what the grid's and the reference's look at a map answer. -/
import Derived.Test.YtdkkchhlhglldaaDoorPka
namespace Go.Proofs.YtdkkchhlhglldaaDoor
open Go.RowKit

def mapB (a b c d e f : Int) : Bool := ((unitB a && decide (b = 0) && decide (c = 0) && unitB d) || (decide (a = 0) && unitB b && unitB c && decide (d = 0))) && evenB e && evenB f

set_option maxHeartbeats 3200000 in
theorem mayMap_any (a b c d e f : Int) (w : World) :
    Calls Tryd.prog 63 #[.agg #[.int .i64 a, .int .i64 b, .int .i64 c, .int .i64 d, .int .i64 e, .int .i64 f]] w fun r w' => r = .returned (.bool (mapB a b c d e f)) ∧ ∃ o, w' = w.alloc o := by
  go_enter Tryd.func63, Tryd.ntmps63
  go_wp2_with (first | (go_at_call 88; refine (unit_any _ _).mono ?_; rintro e w' ⟨rfl, rfl⟩) | (go_at_call 87; refine (evenPlace_any _ _).mono ?_; rintro e w' ⟨rfl, rfl⟩))
  all_goals
    go_ret
    exact ⟨ret_bool (by simp_all [mapB]), _, rfl⟩
set_option maxHeartbeats 6400000 in
theorem mapMay_any (a b c d e f : Int) (w : World) :
    Calls Tryd.prog 22 #[.agg #[.int .i64 a, .int .i64 b, .int .i64 c, .int .i64 d, .int .i64 e, .int .i64 f]] w fun r w' => r = .returned (.bool (mapB a b c d e f)) ∧ ∃ o, w' = w.alloc o := by
  go_enter Tryd.func22, Tryd.ntmps22
  go_wp2_with (go_at_call 51; refine (inBounds_any _ _ _ _).mono ?_; rintro e w' ⟨rfl, rfl⟩)
  all_goals
    go_ret
    exact ⟨ret_bool (by simp_all [mapB, unitB, evenB, inB, tmod2]; try (first | (rw [Bool.eq_iff_iff]; simp [tmod2]; done) | (intros; omega))), _, rfl⟩
end Go.Proofs.YtdkkchhlhglldaaDoor
