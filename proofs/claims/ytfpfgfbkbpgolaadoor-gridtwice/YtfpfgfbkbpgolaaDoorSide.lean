/- On which side of a line a triangle lies: what the grid's Side and the reference's answer. -/
import Derived.Test.YtfpfgfbkbpgolaaDoorRefc
namespace Go.Proofs.YtfpfgfbkbpgolaaDoor
open Go.RowKit
attribute [local go_sem ↓] Go.wp_at_zero Go.wp_at_succ

theorem tri_bd {x y k : Int} (h : triB x y k = true) : 0 ≤ k ∧ k ≤ 3 ∧ -1000000 ≤ x ∧ x ≤ 1000000 ∧ -1000000 ≤ y ∧ y ≤ 1000000 := by simpa [triB] using h
theorem c1x_bd (x k : Int) : 2 * x ≤ c1x x k ∧ c1x x k ≤ 2 * x + 2 := by have := stX_bd k; unfold c1x; omega
theorem c1y_bd (x k : Int) : 2 * x ≤ c1y x k ∧ c1y x k ≤ 2 * x + 2 := by have := stY_bd k; unfold c1y; omega
theorem c2x_bd (x k : Int) : 2 * x ≤ c2x x k ∧ c2x x k ≤ 2 * x + 2 := by have := stX_bd ((k + 1) % 4); unfold c2x; omega
theorem c2y_bd (x k : Int) : 2 * x ≤ c2y x k ∧ c2y x k ≤ 2 * x + 2 := by have := stY_bd ((k + 1) % 4); unfold c2y; omega

theorem below_via {w w0 w1 : World} (h0 : Below w.heap.size w w0) (hb : Below w0.heap.size w0 w1) : Below w.heap.size w w1 := h0.trans (hb.mono h0.size)

theorem alloc_old {w : World} {o : Obj} {a : Addr} {v : Value} (h : w.cell? a = some v) : (w.alloc o).cell? a = some v := (World.cell?_alloc_lt _ _ _ (lt_of_cell h)).trans h
theorem drew_old {w : World} {a : Addr} {v : Value} (h : w.cell? a = some v) : w.drew.cell? a = some v := h

def sideN (v c x y k : Int) : Int := if c < alongOf v (2 * x + 1) (2 * y + 1) ∨ c < alongOf v (c1x x k) (c1y y k) ∨ c < alongOf v (c2x x k) (c2y y k) then 1 else -1

set_option maxHeartbeats 3200000 in
theorem sideOf_a (v c x y k : Int) (w : World) (h : triB x y k = true) (h0 : c < alongOf v (2 * x + 1) (2 * y + 1)) :
    Calls Tryd.prog 19 #[.agg #[.int .i64 v, .int .i64 c], .agg #[.int .i64 x, .int .i64 y, .int .i64 k]] w fun e w' => e = .returned (.int .i64 1) ∧ Below w.heap.size w w' := by
  obtain ⟨_, _, b1, b2, b3, b4⟩ := tri_bd h
  have ex1 := c1x_bd x k
  have ey1 := c1y_bd y k
  have ex2 := c2x_bd x k
  have ey2 := c2y_bd y k
  go_enter Tryd.func19, Tryd.ntmps19
  go_wp2_with (go_at_call 14; refine (cornersOf_any _ _ _ _ h).mono ?_; rintro e w1 ⟨g, rfl, hg, ⟨g0, g1, g2, g3, g4, g5⟩, hb1⟩)
  have hv0 : w1.cell? ⟨w.heap.size, 0, none⟩ = some (.int .i64 v) := cell_kept hb1 (by simp [go_sem])
  have hv1 : w1.cell? ⟨w.heap.size, 1, none⟩ = some (.int .i64 c) := cell_kept hb1 (by simp [go_sem])
  have hz : w.heap.size + 1 + 1 ≤ w1.heap.size := by have := hb1.size; simpa using this
  have HB : Hid (Below w.heap.size w w1) := below_via (below_two _ _ _) hb1
  clear hb1
  refine wp_loop_rounds 4 ?_
  rw [rounds_succ]
  go_wp2
  go_region_held3 (fun w' => w'.cell? ⟨w.heap.size, 0, none⟩ = some (.int .i64 v) ∧ w'.cell? ⟨w.heap.size, 1, none⟩ = some (.int .i64 c) ∧ w'.cell? ⟨g, 0, none⟩ = some (.int .i64 (2 * x + 1)) ∧ w'.cell? ⟨g, 1, none⟩ = some (.int .i64 (2 * y + 1)))
    ((refine ⟨?_, ?_, ?_, ?_⟩ <;> (repeat (first | assumption | refine alloc_old ?_ | refine drew_old ?_))))
    (first | (go_at_call 53; refine (valueOf_any _ _ _ _ (by omega) (by omega) (by omega) (by omega)).mono ?_; rintro e w2 ⟨rfl, o2, rfl⟩))
  go_wp2
  go_ret
  refine ⟨rfl, ?_⟩
  repeat (first | exact HB.out | refine Below.alloc ?_ (by first | omega | (simp; omega) | (simp; done)) _ | refine Below.drew ?_)

set_option maxHeartbeats 3200000 in
theorem sideOf_b (v c x y k : Int) (w : World) (h : triB x y k = true) (h0 : alongOf v (2 * x + 1) (2 * y + 1) ≤ c) (h1 : c < alongOf v (c1x x k) (c1y y k)) :
    Calls Tryd.prog 19 #[.agg #[.int .i64 v, .int .i64 c], .agg #[.int .i64 x, .int .i64 y, .int .i64 k]] w fun e w' => e = .returned (.int .i64 1) ∧ Below w.heap.size w w' := by
  obtain ⟨_, _, b1, b2, b3, b4⟩ := tri_bd h
  have ex1 := c1x_bd x k
  have ey1 := c1y_bd y k
  have ex2 := c2x_bd x k
  have ey2 := c2y_bd y k
  go_enter Tryd.func19, Tryd.ntmps19
  go_wp2_with (go_at_call 14; refine (cornersOf_any _ _ _ _ h).mono ?_; rintro e w1 ⟨g, rfl, hg, ⟨g0, g1, g2, g3, g4, g5⟩, hb1⟩)
  have hv0 : w1.cell? ⟨w.heap.size, 0, none⟩ = some (.int .i64 v) := cell_kept hb1 (by simp [go_sem])
  have hv1 : w1.cell? ⟨w.heap.size, 1, none⟩ = some (.int .i64 c) := cell_kept hb1 (by simp [go_sem])
  have hz : w.heap.size + 1 + 1 ≤ w1.heap.size := by have := hb1.size; simpa using this
  have HB : Hid (Below w.heap.size w w1) := below_via (below_two _ _ _) hb1
  clear hb1
  refine wp_loop_rounds 4 ?_
  rw [rounds_succ]
  go_wp2
  go_region_held3 (fun w' => w'.cell? ⟨w.heap.size, 0, none⟩ = some (.int .i64 v) ∧ w'.cell? ⟨w.heap.size, 1, none⟩ = some (.int .i64 c) ∧ w'.cell? ⟨g, 0, none⟩ = some (.int .i64 (2 * x + 1)) ∧ w'.cell? ⟨g, 1, none⟩ = some (.int .i64 (2 * y + 1)))
    ((refine ⟨?_, ?_, ?_, ?_⟩ <;> (repeat (first | assumption | refine alloc_old ?_ | refine drew_old ?_))))
    (first | (go_at_call 53; refine (valueOf_any _ _ _ _ (by omega) (by omega) (by omega) (by omega)).mono ?_; rintro e w2 ⟨rfl, o2, rfl⟩))
  go_wp2
  rw [rounds_succ]
  go_wp2
  go_region_held3 (fun w' => w'.cell? ⟨w.heap.size, 0, none⟩ = some (.int .i64 v) ∧ w'.cell? ⟨w.heap.size, 1, none⟩ = some (.int .i64 c) ∧ w'.cell? ⟨g, 2, none⟩ = some (.int .i64 (c1x x k)) ∧ w'.cell? ⟨g, 3, none⟩ = some (.int .i64 (c1y y k)))
    ((refine ⟨?_, ?_, ?_, ?_⟩ <;> (repeat (first | assumption | refine alloc_old ?_ | refine drew_old ?_))))
    (first | (go_at_call 53; refine (valueOf_any _ _ _ _ (by omega) (by omega) (by omega) (by omega)).mono ?_; rintro e w2 ⟨rfl, o2, rfl⟩))
  go_wp2
  go_ret
  refine ⟨rfl, ?_⟩
  repeat (first | exact HB.out | refine Below.alloc ?_ (by first | omega | (simp; omega) | (simp; done)) _ | refine Below.drew ?_)

set_option maxHeartbeats 3200000 in
theorem sideOf_c (v c x y k : Int) (w : World) (h : triB x y k = true) (h0 : alongOf v (2 * x + 1) (2 * y + 1) ≤ c) (h1 : alongOf v (c1x x k) (c1y y k) ≤ c) (h2 : c < alongOf v (c2x x k) (c2y y k)) :
    Calls Tryd.prog 19 #[.agg #[.int .i64 v, .int .i64 c], .agg #[.int .i64 x, .int .i64 y, .int .i64 k]] w fun e w' => e = .returned (.int .i64 1) ∧ Below w.heap.size w w' := by
  obtain ⟨_, _, b1, b2, b3, b4⟩ := tri_bd h
  have ex1 := c1x_bd x k
  have ey1 := c1y_bd y k
  have ex2 := c2x_bd x k
  have ey2 := c2y_bd y k
  go_enter Tryd.func19, Tryd.ntmps19
  go_wp2_with (go_at_call 14; refine (cornersOf_any _ _ _ _ h).mono ?_; rintro e w1 ⟨g, rfl, hg, ⟨g0, g1, g2, g3, g4, g5⟩, hb1⟩)
  have hv0 : w1.cell? ⟨w.heap.size, 0, none⟩ = some (.int .i64 v) := cell_kept hb1 (by simp [go_sem])
  have hv1 : w1.cell? ⟨w.heap.size, 1, none⟩ = some (.int .i64 c) := cell_kept hb1 (by simp [go_sem])
  have hz : w.heap.size + 1 + 1 ≤ w1.heap.size := by have := hb1.size; simpa using this
  have HB : Hid (Below w.heap.size w w1) := below_via (below_two _ _ _) hb1
  clear hb1
  refine wp_loop_rounds 4 ?_
  rw [rounds_succ]
  go_wp2
  go_region_held3 (fun w' => w'.cell? ⟨w.heap.size, 0, none⟩ = some (.int .i64 v) ∧ w'.cell? ⟨w.heap.size, 1, none⟩ = some (.int .i64 c) ∧ w'.cell? ⟨g, 0, none⟩ = some (.int .i64 (2 * x + 1)) ∧ w'.cell? ⟨g, 1, none⟩ = some (.int .i64 (2 * y + 1)))
    ((refine ⟨?_, ?_, ?_, ?_⟩ <;> (repeat (first | assumption | refine alloc_old ?_ | refine drew_old ?_))))
    (first | (go_at_call 53; refine (valueOf_any _ _ _ _ (by omega) (by omega) (by omega) (by omega)).mono ?_; rintro e w2 ⟨rfl, o2, rfl⟩))
  go_wp2
  rw [rounds_succ]
  go_wp2
  go_region_held3 (fun w' => w'.cell? ⟨w.heap.size, 0, none⟩ = some (.int .i64 v) ∧ w'.cell? ⟨w.heap.size, 1, none⟩ = some (.int .i64 c) ∧ w'.cell? ⟨g, 2, none⟩ = some (.int .i64 (c1x x k)) ∧ w'.cell? ⟨g, 3, none⟩ = some (.int .i64 (c1y y k)))
    ((refine ⟨?_, ?_, ?_, ?_⟩ <;> (repeat (first | assumption | refine alloc_old ?_ | refine drew_old ?_))))
    (first | (go_at_call 53; refine (valueOf_any _ _ _ _ (by omega) (by omega) (by omega) (by omega)).mono ?_; rintro e w2 ⟨rfl, o2, rfl⟩))
  go_wp2
  rw [rounds_succ]
  go_wp2
  go_region_held3 (fun w' => w'.cell? ⟨w.heap.size, 0, none⟩ = some (.int .i64 v) ∧ w'.cell? ⟨w.heap.size, 1, none⟩ = some (.int .i64 c) ∧ w'.cell? ⟨g, 4, none⟩ = some (.int .i64 (c2x x k)) ∧ w'.cell? ⟨g, 5, none⟩ = some (.int .i64 (c2y y k)))
    ((refine ⟨?_, ?_, ?_, ?_⟩ <;> (repeat (first | assumption | refine alloc_old ?_ | refine drew_old ?_))))
    (first | (go_at_call 53; refine (valueOf_any _ _ _ _ (by omega) (by omega) (by omega) (by omega)).mono ?_; rintro e w2 ⟨rfl, o2, rfl⟩))
  go_wp2
  go_ret
  refine ⟨rfl, ?_⟩
  repeat (first | exact HB.out | refine Below.alloc ?_ (by first | omega | (simp; omega) | (simp; done)) _ | refine Below.drew ?_)

set_option maxHeartbeats 3200000 in
theorem sideOf_d (v c x y k : Int) (w : World) (h : triB x y k = true) (h0 : alongOf v (2 * x + 1) (2 * y + 1) ≤ c) (h1 : alongOf v (c1x x k) (c1y y k) ≤ c) (h2 : alongOf v (c2x x k) (c2y y k) ≤ c) :
    Calls Tryd.prog 19 #[.agg #[.int .i64 v, .int .i64 c], .agg #[.int .i64 x, .int .i64 y, .int .i64 k]] w fun e w' => e = .returned (.int .i64 (-1)) ∧ Below w.heap.size w w' := by
  obtain ⟨_, _, b1, b2, b3, b4⟩ := tri_bd h
  have ex1 := c1x_bd x k
  have ey1 := c1y_bd y k
  have ex2 := c2x_bd x k
  have ey2 := c2y_bd y k
  go_enter Tryd.func19, Tryd.ntmps19
  go_wp2_with (go_at_call 14; refine (cornersOf_any _ _ _ _ h).mono ?_; rintro e w1 ⟨g, rfl, hg, ⟨g0, g1, g2, g3, g4, g5⟩, hb1⟩)
  have hv0 : w1.cell? ⟨w.heap.size, 0, none⟩ = some (.int .i64 v) := cell_kept hb1 (by simp [go_sem])
  have hv1 : w1.cell? ⟨w.heap.size, 1, none⟩ = some (.int .i64 c) := cell_kept hb1 (by simp [go_sem])
  have hz : w.heap.size + 1 + 1 ≤ w1.heap.size := by have := hb1.size; simpa using this
  have HB : Hid (Below w.heap.size w w1) := below_via (below_two _ _ _) hb1
  clear hb1
  refine wp_loop_rounds 4 ?_
  rw [rounds_succ]
  go_wp2
  go_region_held3 (fun w' => w'.cell? ⟨w.heap.size, 0, none⟩ = some (.int .i64 v) ∧ w'.cell? ⟨w.heap.size, 1, none⟩ = some (.int .i64 c) ∧ w'.cell? ⟨g, 0, none⟩ = some (.int .i64 (2 * x + 1)) ∧ w'.cell? ⟨g, 1, none⟩ = some (.int .i64 (2 * y + 1)))
    ((refine ⟨?_, ?_, ?_, ?_⟩ <;> (repeat (first | assumption | refine alloc_old ?_ | refine drew_old ?_))))
    (first | (go_at_call 53; refine (valueOf_any _ _ _ _ (by omega) (by omega) (by omega) (by omega)).mono ?_; rintro e w2 ⟨rfl, o2, rfl⟩))
  go_wp2
  rw [rounds_succ]
  go_wp2
  go_region_held3 (fun w' => w'.cell? ⟨w.heap.size, 0, none⟩ = some (.int .i64 v) ∧ w'.cell? ⟨w.heap.size, 1, none⟩ = some (.int .i64 c) ∧ w'.cell? ⟨g, 2, none⟩ = some (.int .i64 (c1x x k)) ∧ w'.cell? ⟨g, 3, none⟩ = some (.int .i64 (c1y y k)))
    ((refine ⟨?_, ?_, ?_, ?_⟩ <;> (repeat (first | assumption | refine alloc_old ?_ | refine drew_old ?_))))
    (first | (go_at_call 53; refine (valueOf_any _ _ _ _ (by omega) (by omega) (by omega) (by omega)).mono ?_; rintro e w2 ⟨rfl, o2, rfl⟩))
  go_wp2
  rw [rounds_succ]
  go_wp2
  go_region_held3 (fun w' => w'.cell? ⟨w.heap.size, 0, none⟩ = some (.int .i64 v) ∧ w'.cell? ⟨w.heap.size, 1, none⟩ = some (.int .i64 c) ∧ w'.cell? ⟨g, 4, none⟩ = some (.int .i64 (c2x x k)) ∧ w'.cell? ⟨g, 5, none⟩ = some (.int .i64 (c2y y k)))
    ((refine ⟨?_, ?_, ?_, ?_⟩ <;> (repeat (first | assumption | refine alloc_old ?_ | refine drew_old ?_))))
    (first | (go_at_call 53; refine (valueOf_any _ _ _ _ (by omega) (by omega) (by omega) (by omega)).mono ?_; rintro e w2 ⟨rfl, o2, rfl⟩))
  go_wp2
  rw [rounds_succ]
  go_wp2
  go_ret
  refine ⟨rfl, ?_⟩
  repeat (first | exact HB.out | refine Below.alloc ?_ (by first | omega | (simp; omega) | (simp; done)) _ | refine Below.drew ?_)

theorem sideOf_any (v c x y k : Int) (w : World) (h : triB x y k = true) :
    Calls Tryd.prog 19 #[.agg #[.int .i64 v, .int .i64 c], .agg #[.int .i64 x, .int .i64 y, .int .i64 k]] w fun e w' => e = .returned (.int .i64 (sideN v c x y k)) ∧ Below w.heap.size w w' := by
  by_cases h0 : c < alongOf v (2 * x + 1) (2 * y + 1)
  · rw [show sideN v c x y k = 1 by simp [sideN, h0]]; exact sideOf_a v c x y k w h h0
  by_cases h1 : c < alongOf v (c1x x k) (c1y y k)
  · rw [show sideN v c x y k = 1 by simp [sideN, h1]]; exact sideOf_b v c x y k w h (by omega) h1
  by_cases h2 : c < alongOf v (c2x x k) (c2y y k)
  · rw [show sideN v c x y k = 1 by simp [sideN, h2]]; exact sideOf_c v c x y k w h (by omega) (by omega) h2
  · rw [show sideN v c x y k = -1 by simp [sideN, h0, h1, h2]]; exact sideOf_d v c x y k w h (by omega) (by omega) (by omega)

end Go.Proofs.YtfpfgfbkbpgolaaDoor
