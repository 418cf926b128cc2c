/- Small functions of the reference: maps, lines, places that may be. -/
import Derived.Test.YtnpboeodhpenmaaGreatDoorQlac
namespace Go.Proofs.YtnpboeodhpenmaaGreatDoor
open Go.RowKit

set_option maxHeartbeats 3200000 in
theorem mapMay_any (a b c d e f : Int) (w : World) :
    Calls Tryz.prog 61 #[.agg #[.int .i64 a, .int .i64 b, .int .i64 c, .int .i64 d, .int .i64 e, .int .i64 f]] w fun r w' => r = .returned (.bool (mapB a b c d e f)) ∧ ∃ o, w' = w.alloc o := by
  go_enter Tryz.func61, Tryz.ntmps61
  go_wp2_with (go_at_call 136; refine (inBounds_any _ _ _ _).mono ?_; rintro e w' ⟨rfl, rfl⟩)
  all_goals
    go_ret
    exact ⟨ret_bool (by simp_all [mapB, unitB, evenB, inB, tmod2]; try (first | (rw [Bool.eq_iff_iff]; simp [tmod2]; done) | (intros; omega))), _, rfl⟩
set_option maxHeartbeats 3200000 in
theorem triMay_any (x y k : Int) (w : World) :
    Calls Tryz.prog 62 #[.agg #[.int .i64 x, .int .i64 y, .int .i64 k]] w fun e w' => e = .returned (.bool (triB x y k)) ∧ ∃ o, w' = w.alloc o := by
  go_enter Tryz.func62, Tryz.ntmps62
  go_wp2_with (go_at_call 136; refine (inBounds_any _ _ _ _).mono ?_; rintro e w' ⟨rfl, rfl⟩)
  all_goals
    go_ret
    exact ⟨ret_bool (by rw [Bool.eq_iff_iff]; simp_all [inB, triB]; try omega), _, rfl⟩

end Go.Proofs.YtnpboeodhpenmaaGreatDoor
