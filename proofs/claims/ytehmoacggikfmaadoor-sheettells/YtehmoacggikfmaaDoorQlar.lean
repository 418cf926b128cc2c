/- The reference's corners of a triangle, wherever it lies. -/
import Derived.Test.YtehmoacggikfmaaDoorQlaq
import Derived.Test.YtehmoacggikfmaaDoorQlac
namespace Go.Proofs.YtehmoacggikfmaaDoor
open Go.RowKit

set_option maxHeartbeats 1600000 in
theorem cornersOfW_0 (x y : Int) (w : World) (b1 : -4000000 ≤ x) (b2 : x ≤ 4000000) (b3 : -4000000 ≤ y) (b4 : y ≤ 4000000) :
    Calls Tryd.prog 55 #[.agg #[.int .i64 x, .int .i64 y, .int .i64 0]] w fun e w' => ∃ g, e = .returned (.slice (some ⟨g, 0, none⟩) 3 3) ∧ w.heap.size ≤ g ∧ Mp w' g (2 * x + 1) (2 * y + 1) (2 * x) (2 * y) (2 * x + 2) (2 * y) ∧ Below w.heap.size w w' := by
  go_enter Tryd.func55, Tryd.ntmps55
  go_wp2
  go_quiet (fail)
  go_wp2
  go_ret
  refine ⟨_, rfl, by omega, ?_, ?_⟩
  · simp [Mp, go_sem]
  · with_reducible repeat (first | refine bl_alloc ?_ | refine bl_drewN ?_ | exact bl_refl _)

set_option maxHeartbeats 1600000 in
theorem cornersOfW_1 (x y : Int) (w : World) (b1 : -4000000 ≤ x) (b2 : x ≤ 4000000) (b3 : -4000000 ≤ y) (b4 : y ≤ 4000000) :
    Calls Tryd.prog 55 #[.agg #[.int .i64 x, .int .i64 y, .int .i64 1]] w fun e w' => ∃ g, e = .returned (.slice (some ⟨g, 0, none⟩) 3 3) ∧ w.heap.size ≤ g ∧ Mp w' g (2 * x + 1) (2 * y + 1) (2 * x + 2) (2 * y) (2 * x + 2) (2 * y + 2) ∧ Below w.heap.size w w' := by
  go_enter Tryd.func55, Tryd.ntmps55
  go_wp2
  go_quiet (fail)
  go_wp2
  go_ret
  refine ⟨_, rfl, by omega, ?_, ?_⟩
  · simp [Mp, go_sem]
  · with_reducible repeat (first | refine bl_alloc ?_ | refine bl_drewN ?_ | exact bl_refl _)

set_option maxHeartbeats 1600000 in
theorem cornersOfW_2 (x y : Int) (w : World) (b1 : -4000000 ≤ x) (b2 : x ≤ 4000000) (b3 : -4000000 ≤ y) (b4 : y ≤ 4000000) :
    Calls Tryd.prog 55 #[.agg #[.int .i64 x, .int .i64 y, .int .i64 2]] w fun e w' => ∃ g, e = .returned (.slice (some ⟨g, 0, none⟩) 3 3) ∧ w.heap.size ≤ g ∧ Mp w' g (2 * x + 1) (2 * y + 1) (2 * x + 2) (2 * y + 2) (2 * x) (2 * y + 2) ∧ Below w.heap.size w w' := by
  go_enter Tryd.func55, Tryd.ntmps55
  go_wp2
  go_quiet (fail)
  go_wp2
  go_ret
  refine ⟨_, rfl, by omega, ?_, ?_⟩
  · simp [Mp, go_sem]
  · with_reducible repeat (first | refine bl_alloc ?_ | refine bl_drewN ?_ | exact bl_refl _)

set_option maxHeartbeats 1600000 in
theorem cornersOfW_3 (x y : Int) (w : World) (b1 : -4000000 ≤ x) (b2 : x ≤ 4000000) (b3 : -4000000 ≤ y) (b4 : y ≤ 4000000) :
    Calls Tryd.prog 55 #[.agg #[.int .i64 x, .int .i64 y, .int .i64 3]] w fun e w' => ∃ g, e = .returned (.slice (some ⟨g, 0, none⟩) 3 3) ∧ w.heap.size ≤ g ∧ Mp w' g (2 * x + 1) (2 * y + 1) (2 * x) (2 * y + 2) (2 * x) (2 * y) ∧ Below w.heap.size w w' := by
  go_enter Tryd.func55, Tryd.ntmps55
  go_wp2
  go_quiet (fail)
  go_wp2
  go_ret
  refine ⟨_, rfl, by omega, ?_, ?_⟩
  · simp [Mp, go_sem]
  · with_reducible repeat (first | refine bl_alloc ?_ | refine bl_drewN ?_ | exact bl_refl _)

end Go.Proofs.YtehmoacggikfmaaDoor
