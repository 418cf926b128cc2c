/- What undoes a map: the grid's back. -/
import Derived.Test.YtdkkchhlhglldaaDoorAft2
namespace Go.Proofs.YtdkkchhlhglldaaDoor
open Go.RowKit
attribute [local go_sem ↓] Go.wp_at_zero Go.wp_at_succ

set_option maxHeartbeats 1600000 in
theorem back_any (a b c d e f : Int) (w : World) (hs : Sm a b c d) (he : Ef e f) :
    Calls Tryd.prog 67 #[.agg #[.int .i64 a, .int .i64 b, .int .i64 c, .int .i64 d, .int .i64 e, .int .i64 f]] w fun r w' =>
      r = .returned (.agg #[.int .i64 a, .int .i64 c, .int .i64 b, .int .i64 d, .int .i64 (-(dot a c e f)), .int .i64 (-(dot b d e f))]) ∧ Below w.heap.size w w' := by
  have hs' : Sm a c b d := ⟨hs.1, hs.2.2.1, hs.2.1, hs.2.2.2⟩
  obtain ⟨⟨e1, e2⟩, ⟨f1, f2⟩⟩ := he
  have d1 := dot_bd hs'.1.1 hs'.1.2 hs'.2.1.1 hs'.2.1.2 e1 e2 f1 f2
  have d2 := dot_bd hs'.2.2.1.1 hs'.2.2.1.2 hs'.2.2.2.1 hs'.2.2.2.2 e1 e2 f1 f2
  have HS : Hid (Sm a c b d) := hs'
  have wX : IntKind.i64.wrap (-(dot a c e f)) = -(dot a c e f) := by rw [IntKind.wrap_i64]; omega
  have wY : IntKind.i64.wrap (-(dot b d e f)) = -(dot b d e f) := by rw [IntKind.wrap_i64]; omega
  clear hs hs'
  go_enter Tryd.func67, Tryd.ntmps67
  go_wp2_with (go_at_call 89; refine (turn_any _ _ _ _ _ _ _ _ _ HS.out (by omega) (by omega) (by omega) (by omega)).mono ?_; rintro e w2 ⟨rfl, o1, o2, o3, rfl⟩)
  go_region_held3 (fun w' => w'.cell? ⟨w.heap.size + 1 + 1 + 1 + 1 + 1 + 1, 0, none⟩ = some (.int .i64 (dot a c e f)) ∧ w'.cell? ⟨w.heap.size + 1 + 1 + 1 + 1 + 1 + 1, 1, none⟩ = some (.int .i64 (dot b d e f)))
    (simp [go_sem])
    (fail)
  all_goals
    go_wp2
    refine bodyPost_ret (v := .agg #[.int .i64 a, .int .i64 c, .int .i64 b, .int .i64 d, .int .i64 (-(dot a c e f)), .int .i64 (-(dot b d e f))]) (by simp [results, Tryd.results67, go_sem, World.cell?_alloc_past]) rfl ⟨rfl, ?_⟩
    with_reducible repeat (first | refine bl_alloc ?_ | refine bl_drew ?_ | exact bl_refl _)

end Go.Proofs.YtdkkchhlhglldaaDoor
