/- bits.Len of 1 and 2. -/
import Derived.Test.YtohnppjbmpaomaaBase
namespace Go.Proofs.Ytohnppjbmpaomaa
open Go.RowKit

set_option maxRecDepth 100000 in
theorem len62_1 (w : World) : Calls Try.prog 62 #[.int .u64 1] w fun e w' => e = .returned (.int .i64 1) ∧ Below w.heap.size w w' := by
  go_enter Try.func62, Try.ntmps62
  go_wp2
  go_ret
  exact ⟨by kernel_rfl, bl_refl _⟩
theorem len47_1 (w : World) : Calls Try.prog 47 #[.int .u64 1] w fun e w' => e = .returned (.int .i64 1) ∧ Below w.heap.size w w' := by
  have C : Hid (∀ W, Calls Try.prog 62 #[.int .u64 1] W fun e w' => e = .returned (.int .i64 1) ∧ Below W.heap.size W w') := fun W => len62_1 W
  go_enter Try.func47, Try.ntmps47
  go_wp2_with (go_at_call 62; refine (C.out _).mono ?_; rintro e w1 ⟨rfl, hb⟩)
  go_ret
  exact ⟨rfl, hb⟩
set_option maxRecDepth 100000 in
theorem len62_2 (w : World) : Calls Try.prog 62 #[.int .u64 2] w fun e w' => e = .returned (.int .i64 2) ∧ Below w.heap.size w w' := by
  go_enter Try.func62, Try.ntmps62
  go_wp2
  go_ret
  exact ⟨by kernel_rfl, bl_refl _⟩
theorem len47_2 (w : World) : Calls Try.prog 47 #[.int .u64 2] w fun e w' => e = .returned (.int .i64 2) ∧ Below w.heap.size w w' := by
  have C : Hid (∀ W, Calls Try.prog 62 #[.int .u64 2] W fun e w' => e = .returned (.int .i64 2) ∧ Below W.heap.size W w') := fun W => len62_2 W
  go_enter Try.func47, Try.ntmps47
  go_wp2_with (go_at_call 62; refine (C.out _).mono ?_; rintro e w1 ⟨rfl, hb⟩)
  go_ret
  exact ⟨rfl, hb⟩
end Go.Proofs.Ytohnppjbmpaomaa
