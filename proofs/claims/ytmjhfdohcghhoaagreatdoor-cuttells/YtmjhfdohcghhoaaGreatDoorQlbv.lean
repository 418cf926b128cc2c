/- A part of the proof of cutTells_holds. -/
import Derived.Test.YtmjhfdohcghhoaaGreatDoorQlal
namespace Go.Proofs.YtmjhfdohcghhoaaGreatDoor
open Go.RowKit
attribute [local go_sem ↓] Go.wp_at_zero Go.wp_at_succ

theorem tri_bd {x y k : Int} (h : triB x y k = true) : 0 ≤ k ∧ k ≤ 3 ∧ -1000000 ≤ x ∧ x ≤ 1000000 ∧ -1000000 ≤ y ∧ y ≤ 1000000 := by simpa [triB] using h
theorem c1x_bd (x k : Int) : 2 * x ≤ c1x x k ∧ c1x x k ≤ 2 * x + 2 := by have := stX_bd k; unfold c1x; omega
theorem c1y_bd (x k : Int) : 2 * x ≤ c1y x k ∧ c1y x k ≤ 2 * x + 2 := by have := stY_bd k; unfold c1y; omega
theorem c2x_bd (x k : Int) : 2 * x ≤ c2x x k ∧ c2x x k ≤ 2 * x + 2 := by have := stX_bd ((k + 1) % 4); unfold c2x; omega
theorem c2y_bd (x k : Int) : 2 * x ≤ c2y x k ∧ c2y x k ≤ 2 * x + 2 := by have := stY_bd ((k + 1) % 4); unfold c2y; omega

theorem below_via {w w0 w1 : World} (h0 : Below w.heap.size w w0) (hb : Below w0.heap.size w0 w1) : Below w.heap.size w w1 := h0.trans (hb.mono h0.size)

theorem alloc_old {w : World} {o : Obj} {a : Addr} {v : Value} (h : w.cell? a = some v) : (w.alloc o).cell? a = some v := (World.cell?_alloc_lt _ _ _ (lt_of_cell h)).trans h
def sideN (v c x y k : Int) : Int := if c < alongOf v (2 * x + 1) (2 * y + 1) ∨ c < alongOf v (c1x x k) (c1y y k) ∨ c < alongOf v (c2x x k) (c2y y k) then 1 else -1

set_option maxHeartbeats 3200000 in
theorem sideOf_a (v c x y k : Int) (w : World) (h : triB x y k = true) (h0 : c < alongOf v (2 * x + 1) (2 * y + 1)) :
    Calls Tryz.prog 35 #[.agg #[.int .i64 v, .int .i64 c], .agg #[.int .i64 x, .int .i64 y, .int .i64 k]] w fun e w' => e = .returned (.int .i64 1) ∧ Below w.heap.size w w' := by
  obtain ⟨_, _, b1, b2, b3, b4⟩ := tri_bd h
  have ex1 := c1x_bd x k
  have ey1 := c1y_bd y k
  have ex2 := c2x_bd x k
  have ey2 := c2y_bd y k
  go_enter Tryz.func35, Tryz.ntmps35
  go_wp2_with (go_at_call 64; refine (cornersOf_any _ _ _ _ h).mono ?_; rintro e w1 ⟨g, rfl, hg, ⟨g0, g1, g2, g3, g4, g5⟩, hb1⟩)
  have hv0 : w1.cell? ⟨w.heap.size, 0, none⟩ = some (.int .i64 v) := cell_kept hb1 (by simp [go_sem])
  have hv1 : w1.cell? ⟨w.heap.size, 1, none⟩ = some (.int .i64 c) := cell_kept hb1 (by simp [go_sem])
  have hz : w.heap.size + 1 + 1 ≤ w1.heap.size := by have := hb1.size; simpa using this
  have HB : Hid (Below w.heap.size w w1) := below_via (below_two _ _ _) hb1
  clear hb1
  refine wp_loop_rounds 4 ?_
  rw [rounds_succ]
  go_wp2
  go_region_held3 (fun w' => w'.cell? ⟨w.heap.size, 0, none⟩ = some (.int .i64 v) ∧ w'.cell? ⟨w.heap.size, 1, none⟩ = some (.int .i64 c) ∧ w'.cell? ⟨g, 0, none⟩ = some (.int .i64 (2 * x + 1)) ∧ w'.cell? ⟨g, 1, none⟩ = some (.int .i64 (2 * y + 1)))
    ((refine ⟨?_, ?_, ?_, ?_⟩ <;> (repeat (first | assumption | refine alloc_old ?_ | refine drew_old ?_))))
    (first | (go_at_call 66; refine (valueOf_any _ _ _ _ (by omega) (by omega) (by omega) (by omega)).mono ?_; rintro e w2 ⟨rfl, o2, rfl⟩))
  go_wp2
  go_ret
  refine ⟨rfl, ?_⟩
  repeat (first | exact HB.out | refine Below.alloc ?_ (by first | omega | (simp; omega) | (simp; done)) _ | refine Below.drew ?_)

set_option maxHeartbeats 3200000 in
theorem sideOf_b (v c x y k : Int) (w : World) (h : triB x y k = true) (h0 : alongOf v (2 * x + 1) (2 * y + 1) ≤ c) (h1 : c < alongOf v (c1x x k) (c1y y k)) :
    Calls Tryz.prog 35 #[.agg #[.int .i64 v, .int .i64 c], .agg #[.int .i64 x, .int .i64 y, .int .i64 k]] w fun e w' => e = .returned (.int .i64 1) ∧ Below w.heap.size w w' := by
  obtain ⟨_, _, b1, b2, b3, b4⟩ := tri_bd h
  have ex1 := c1x_bd x k
  have ey1 := c1y_bd y k
  have ex2 := c2x_bd x k
  have ey2 := c2y_bd y k
  go_enter Tryz.func35, Tryz.ntmps35
  go_wp2_with (go_at_call 64; refine (cornersOf_any _ _ _ _ h).mono ?_; rintro e w1 ⟨g, rfl, hg, ⟨g0, g1, g2, g3, g4, g5⟩, hb1⟩)
  have hv0 : w1.cell? ⟨w.heap.size, 0, none⟩ = some (.int .i64 v) := cell_kept hb1 (by simp [go_sem])
  have hv1 : w1.cell? ⟨w.heap.size, 1, none⟩ = some (.int .i64 c) := cell_kept hb1 (by simp [go_sem])
  have hz : w.heap.size + 1 + 1 ≤ w1.heap.size := by have := hb1.size; simpa using this
  have HB : Hid (Below w.heap.size w w1) := below_via (below_two _ _ _) hb1
  clear hb1
  refine wp_loop_rounds 4 ?_
  rw [rounds_succ]
  go_wp2
  go_region_held3 (fun w' => w'.cell? ⟨w.heap.size, 0, none⟩ = some (.int .i64 v) ∧ w'.cell? ⟨w.heap.size, 1, none⟩ = some (.int .i64 c) ∧ w'.cell? ⟨g, 0, none⟩ = some (.int .i64 (2 * x + 1)) ∧ w'.cell? ⟨g, 1, none⟩ = some (.int .i64 (2 * y + 1)))
    ((refine ⟨?_, ?_, ?_, ?_⟩ <;> (repeat (first | assumption | refine alloc_old ?_ | refine drew_old ?_))))
    (first | (go_at_call 66; refine (valueOf_any _ _ _ _ (by omega) (by omega) (by omega) (by omega)).mono ?_; rintro e w2 ⟨rfl, o2, rfl⟩))
  go_wp2
  rw [rounds_succ]
  go_wp2
  go_region_held3 (fun w' => w'.cell? ⟨w.heap.size, 0, none⟩ = some (.int .i64 v) ∧ w'.cell? ⟨w.heap.size, 1, none⟩ = some (.int .i64 c) ∧ w'.cell? ⟨g, 2, none⟩ = some (.int .i64 (c1x x k)) ∧ w'.cell? ⟨g, 3, none⟩ = some (.int .i64 (c1y y k)))
    ((refine ⟨?_, ?_, ?_, ?_⟩ <;> (repeat (first | assumption | refine alloc_old ?_ | refine drew_old ?_))))
    (first | (go_at_call 66; refine (valueOf_any _ _ _ _ (by omega) (by omega) (by omega) (by omega)).mono ?_; rintro e w2 ⟨rfl, o2, rfl⟩))
  go_wp2
  go_ret
  refine ⟨rfl, ?_⟩
  repeat (first | exact HB.out | refine Below.alloc ?_ (by first | omega | (simp; omega) | (simp; done)) _ | refine Below.drew ?_)

set_option maxHeartbeats 3200000 in
theorem sideOf_c (v c x y k : Int) (w : World) (h : triB x y k = true) (h0 : alongOf v (2 * x + 1) (2 * y + 1) ≤ c) (h1 : alongOf v (c1x x k) (c1y y k) ≤ c) (h2 : c < alongOf v (c2x x k) (c2y y k)) :
    Calls Tryz.prog 35 #[.agg #[.int .i64 v, .int .i64 c], .agg #[.int .i64 x, .int .i64 y, .int .i64 k]] w fun e w' => e = .returned (.int .i64 1) ∧ Below w.heap.size w w' := by
  obtain ⟨_, _, b1, b2, b3, b4⟩ := tri_bd h
  have ex1 := c1x_bd x k
  have ey1 := c1y_bd y k
  have ex2 := c2x_bd x k
  have ey2 := c2y_bd y k
  go_enter Tryz.func35, Tryz.ntmps35
  go_wp2_with (go_at_call 64; refine (cornersOf_any _ _ _ _ h).mono ?_; rintro e w1 ⟨g, rfl, hg, ⟨g0, g1, g2, g3, g4, g5⟩, hb1⟩)
  have hv0 : w1.cell? ⟨w.heap.size, 0, none⟩ = some (.int .i64 v) := cell_kept hb1 (by simp [go_sem])
  have hv1 : w1.cell? ⟨w.heap.size, 1, none⟩ = some (.int .i64 c) := cell_kept hb1 (by simp [go_sem])
  have hz : w.heap.size + 1 + 1 ≤ w1.heap.size := by have := hb1.size; simpa using this
  have HB : Hid (Below w.heap.size w w1) := below_via (below_two _ _ _) hb1
  clear hb1
  refine wp_loop_rounds 4 ?_
  rw [rounds_succ]
  go_wp2
  go_region_held3 (fun w' => w'.cell? ⟨w.heap.size, 0, none⟩ = some (.int .i64 v) ∧ w'.cell? ⟨w.heap.size, 1, none⟩ = some (.int .i64 c) ∧ w'.cell? ⟨g, 0, none⟩ = some (.int .i64 (2 * x + 1)) ∧ w'.cell? ⟨g, 1, none⟩ = some (.int .i64 (2 * y + 1)))
    ((refine ⟨?_, ?_, ?_, ?_⟩ <;> (repeat (first | assumption | refine alloc_old ?_ | refine drew_old ?_))))
    (first | (go_at_call 66; refine (valueOf_any _ _ _ _ (by omega) (by omega) (by omega) (by omega)).mono ?_; rintro e w2 ⟨rfl, o2, rfl⟩))
  go_wp2
  rw [rounds_succ]
  go_wp2
  go_region_held3 (fun w' => w'.cell? ⟨w.heap.size, 0, none⟩ = some (.int .i64 v) ∧ w'.cell? ⟨w.heap.size, 1, none⟩ = some (.int .i64 c) ∧ w'.cell? ⟨g, 2, none⟩ = some (.int .i64 (c1x x k)) ∧ w'.cell? ⟨g, 3, none⟩ = some (.int .i64 (c1y y k)))
    ((refine ⟨?_, ?_, ?_, ?_⟩ <;> (repeat (first | assumption | refine alloc_old ?_ | refine drew_old ?_))))
    (first | (go_at_call 66; refine (valueOf_any _ _ _ _ (by omega) (by omega) (by omega) (by omega)).mono ?_; rintro e w2 ⟨rfl, o2, rfl⟩))
  go_wp2
  rw [rounds_succ]
  go_wp2
  go_region_held3 (fun w' => w'.cell? ⟨w.heap.size, 0, none⟩ = some (.int .i64 v) ∧ w'.cell? ⟨w.heap.size, 1, none⟩ = some (.int .i64 c) ∧ w'.cell? ⟨g, 4, none⟩ = some (.int .i64 (c2x x k)) ∧ w'.cell? ⟨g, 5, none⟩ = some (.int .i64 (c2y y k)))
    ((refine ⟨?_, ?_, ?_, ?_⟩ <;> (repeat (first | assumption | refine alloc_old ?_ | refine drew_old ?_))))
    (first | (go_at_call 66; refine (valueOf_any _ _ _ _ (by omega) (by omega) (by omega) (by omega)).mono ?_; rintro e w2 ⟨rfl, o2, rfl⟩))
  go_wp2
  go_ret
  refine ⟨rfl, ?_⟩
  repeat (first | exact HB.out | refine Below.alloc ?_ (by first | omega | (simp; omega) | (simp; done)) _ | refine Below.drew ?_)

set_option maxHeartbeats 3200000 in
theorem sideOf_d (v c x y k : Int) (w : World) (h : triB x y k = true) (h0 : alongOf v (2 * x + 1) (2 * y + 1) ≤ c) (h1 : alongOf v (c1x x k) (c1y y k) ≤ c) (h2 : alongOf v (c2x x k) (c2y y k) ≤ c) :
    Calls Tryz.prog 35 #[.agg #[.int .i64 v, .int .i64 c], .agg #[.int .i64 x, .int .i64 y, .int .i64 k]] w fun e w' => e = .returned (.int .i64 (-1)) ∧ Below w.heap.size w w' := by
  obtain ⟨_, _, b1, b2, b3, b4⟩ := tri_bd h
  have ex1 := c1x_bd x k
  have ey1 := c1y_bd y k
  have ex2 := c2x_bd x k
  have ey2 := c2y_bd y k
  go_enter Tryz.func35, Tryz.ntmps35
  go_wp2_with (go_at_call 64; refine (cornersOf_any _ _ _ _ h).mono ?_; rintro e w1 ⟨g, rfl, hg, ⟨g0, g1, g2, g3, g4, g5⟩, hb1⟩)
  have hv0 : w1.cell? ⟨w.heap.size, 0, none⟩ = some (.int .i64 v) := cell_kept hb1 (by simp [go_sem])
  have hv1 : w1.cell? ⟨w.heap.size, 1, none⟩ = some (.int .i64 c) := cell_kept hb1 (by simp [go_sem])
  have hz : w.heap.size + 1 + 1 ≤ w1.heap.size := by have := hb1.size; simpa using this
  have HB : Hid (Below w.heap.size w w1) := below_via (below_two _ _ _) hb1
  clear hb1
  refine wp_loop_rounds 4 ?_
  rw [rounds_succ]
  go_wp2
  go_region_held3 (fun w' => w'.cell? ⟨w.heap.size, 0, none⟩ = some (.int .i64 v) ∧ w'.cell? ⟨w.heap.size, 1, none⟩ = some (.int .i64 c) ∧ w'.cell? ⟨g, 0, none⟩ = some (.int .i64 (2 * x + 1)) ∧ w'.cell? ⟨g, 1, none⟩ = some (.int .i64 (2 * y + 1)))
    ((refine ⟨?_, ?_, ?_, ?_⟩ <;> (repeat (first | assumption | refine alloc_old ?_ | refine drew_old ?_))))
    (first | (go_at_call 66; refine (valueOf_any _ _ _ _ (by omega) (by omega) (by omega) (by omega)).mono ?_; rintro e w2 ⟨rfl, o2, rfl⟩))
  go_wp2
  rw [rounds_succ]
  go_wp2
  go_region_held3 (fun w' => w'.cell? ⟨w.heap.size, 0, none⟩ = some (.int .i64 v) ∧ w'.cell? ⟨w.heap.size, 1, none⟩ = some (.int .i64 c) ∧ w'.cell? ⟨g, 2, none⟩ = some (.int .i64 (c1x x k)) ∧ w'.cell? ⟨g, 3, none⟩ = some (.int .i64 (c1y y k)))
    ((refine ⟨?_, ?_, ?_, ?_⟩ <;> (repeat (first | assumption | refine alloc_old ?_ | refine drew_old ?_))))
    (first | (go_at_call 66; refine (valueOf_any _ _ _ _ (by omega) (by omega) (by omega) (by omega)).mono ?_; rintro e w2 ⟨rfl, o2, rfl⟩))
  go_wp2
  rw [rounds_succ]
  go_wp2
  go_region_held3 (fun w' => w'.cell? ⟨w.heap.size, 0, none⟩ = some (.int .i64 v) ∧ w'.cell? ⟨w.heap.size, 1, none⟩ = some (.int .i64 c) ∧ w'.cell? ⟨g, 4, none⟩ = some (.int .i64 (c2x x k)) ∧ w'.cell? ⟨g, 5, none⟩ = some (.int .i64 (c2y y k)))
    ((refine ⟨?_, ?_, ?_, ?_⟩ <;> (repeat (first | assumption | refine alloc_old ?_ | refine drew_old ?_))))
    (first | (go_at_call 66; refine (valueOf_any _ _ _ _ (by omega) (by omega) (by omega) (by omega)).mono ?_; rintro e w2 ⟨rfl, o2, rfl⟩))
  go_wp2
  rw [rounds_succ]
  go_wp2
  go_ret
  refine ⟨rfl, ?_⟩
  repeat (first | exact HB.out | refine Below.alloc ?_ (by first | omega | (simp; omega) | (simp; done)) _ | refine Below.drew ?_)

theorem sideOf_any (v c x y k : Int) (w : World) (h : triB x y k = true) :
    Calls Tryz.prog 35 #[.agg #[.int .i64 v, .int .i64 c], .agg #[.int .i64 x, .int .i64 y, .int .i64 k]] w fun e w' => e = .returned (.int .i64 (sideN v c x y k)) ∧ Below w.heap.size w w' := by
  by_cases h0 : c < alongOf v (2 * x + 1) (2 * y + 1)
  · rw [show sideN v c x y k = 1 by simp [sideN, h0]]; exact sideOf_a v c x y k w h h0
  by_cases h1 : c < alongOf v (c1x x k) (c1y y k)
  · rw [show sideN v c x y k = 1 by simp [sideN, h1]]; exact sideOf_b v c x y k w h (by omega) h1
  by_cases h2 : c < alongOf v (c2x x k) (c2y y k)
  · rw [show sideN v c x y k = 1 by simp [sideN, h2]]; exact sideOf_c v c x y k w h (by omega) (by omega) h2
  · rw [show sideN v c x y k = -1 by simp [sideN, h0, h1, h2]]; exact sideOf_d v c x y k w h (by omega) (by omega) (by omega)


theorem along_any (y a b : Int) (w : World) (h1 : -10000000 ≤ a) (h2 : a ≤ 10000000) (h3 : -10000000 ≤ b) (h4 : b ≤ 10000000) :
    Calls Tryz.prog 96 #[.int .i64 y, .agg #[.int .i64 a, .int .i64 b]] w fun e w' => e = .returned (.int .i64 (alongOf y a b)) ∧ ∃ o, w' = w.alloc o := by
  go_enter Tryz.func96, Tryz.ntmps96
  go_wp2
  all_goals
    go_ret
    exact ⟨ret_int (by simp_all [alongOf]), _, rfl⟩

theorem index3 (a b c d e f : Value) (w : World) : (Instr.index 100 (.agg #[a, b, c, d, e, f]) (.int .i64 0)).run Tryz.prog w = .ok (.agg #[a, b]) w ∧ (Instr.index 100 (.agg #[a, b, c, d, e, f]) (.int .i64 1)).run Tryz.prog w = .ok (.agg #[c, d]) w ∧ (Instr.index 100 (.agg #[a, b, c, d, e, f]) (.int .i64 2)).run Tryz.prog w = .ok (.agg #[e, f]) w :=
  ⟨by kernel_rfl, by kernel_rfl, by kernel_rfl⟩

def sumN (v x y k : Int) : Int := alongOf v (2 * x + 1) (2 * y + 1) + alongOf v (c1x x k) (c1y y k) + alongOf v (c2x x k) (c2y y k)

theorem along_bd (v a b : Int) (h1 : -10000000 ≤ a) (h2 : a ≤ 10000000) (h3 : -10000000 ≤ b) (h4 : b ≤ 10000000) : -20000000 ≤ alongOf v a b ∧ alongOf v a b ≤ 20000000 := by
  unfold alongOf; split <;> (try split) <;> (try split) <;> omega

set_option maxHeartbeats 3200000 in
theorem side1_t (v c x y k : Int) (pt pl : Nat) (w : World) (h : triB x y k = true) (hl : lineB v c = true) (hs : Steps w)
    (t0 : w.cell? ⟨pt, 0, none⟩ = some (.int .i64 x)) (t1 : w.cell? ⟨pt, 1, none⟩ = some (.int .i64 y)) (t2 : w.cell? ⟨pt, 2, none⟩ = some (.int .i64 k))
    (l0 : w.cell? ⟨pl, 0, none⟩ = some (.int .i64 v)) (l1 : w.cell? ⟨pl, 1, none⟩ = some (.int .i64 c)) (hsum : 3 * c < sumN v x y k) :
    Calls Tryz.prog 95 #[.pointer (some ⟨pt, 0, none⟩), .pointer (some ⟨pl, 0, none⟩)] w fun e w' => e = .returned (.tuple #[.int .i64 1, .int .i64 0]) ∧ Below w.heap.size w w' := by
  obtain ⟨_, _, b1, b2, b3, b4⟩ := tri_bd h
  have hc : -1000000 ≤ c ∧ c ≤ 1000000 := by have : 0 ≤ v ∧ v ≤ 3 ∧ -1000000 ≤ c ∧ c ≤ 1000000 ∧ c % 2 = 0 := by simpa [lineB] using hl
                                             omega
  obtain ⟨hc1, hc2⟩ := hc
  have ex1 := c1x_bd x k
  have ey1 := c1y_bd y k
  have ex2 := c2x_bd x k
  have ey2 := c2y_bd y k
  have v0 := along_bd v (2 * x + 1) (2 * y + 1) (by omega) (by omega) (by omega) (by omega)
  have v1 := along_bd v (c1x x k) (c1y y k) (by omega) (by omega) (by omega) (by omega)
  have v2 := along_bd v (c2x x k) (c2y y k) (by omega) (by omega) (by omega) (by omega)
  have hi := fun w => index3 (.int .i64 (2 * x + 1)) (.int .i64 (2 * y + 1)) (.int .i64 (c1x x k)) (.int .i64 (c1y y k)) (.int .i64 (c2x x k)) (.int .i64 (c2y y k)) w
  have hi0 := fun w => (hi w).1
  have hi1 := fun w => (hi w).2.1
  have hi2 := fun w => (hi w).2.2
  clear hi
  unfold sumN at hsum
  go_enter Tryz.func95, Tryz.ntmps95
  go_wp2_with (go_at_call 70; refine (corners_any _ _ _ _ h hs).mono ?_; rintro e w1 ⟨rfl, hb1⟩)
  have m0 : w1.cell? ⟨pl, 0, none⟩ = some (.int .i64 v) := cell_kept hb1 l0
  have m1 : w1.cell? ⟨pl, 1, none⟩ = some (.int .i64 c) := cell_kept hb1 l1
  have hz : pl < w.heap.size := lt_of_cell l0
  have hz1 : w.heap.size ≤ w1.heap.size := hb1.size
  have hz2 : pl < w1.heap.size := by omega
  have hy1 : pl < w1.heap.size + 1 := by omega
  have hy2 : pl < w1.heap.size + 1 + 1 := by omega
  have hy3 : pl < w1.heap.size + 1 + 1 + 1 := by omega
  have hy4 : pl < w1.heap.size + 1 + 1 + 1 + 1 := by omega
  have hy5 : pl < w1.heap.size + 1 + 1 + 1 + 1 + 1 := by omega
  have hy6 : pl < w1.heap.size + 1 + 1 + 1 + 1 + 1 + 1 := by omega
  have HB : Hid (Below w.heap.size w w1) := hb1
  clear hb1 t0 t1 t2 l0 l1 hs
  refine wp_loop_rounds 4 ?_
  rw [rounds_succ]
  go_wp2_with (go_at_call 96; refine (along_any _ _ _ _ (by omega) (by omega) (by omega) (by omega)).mono ?_; rintro e w2 ⟨rfl, o2, rfl⟩)
  rw [rounds_succ]
  go_wp2_with (go_at_call 96; refine (along_any _ _ _ _ (by omega) (by omega) (by omega) (by omega)).mono ?_; rintro e w2 ⟨rfl, o3, rfl⟩)
  rw [rounds_succ]
  go_wp2_with (go_at_call 96; refine (along_any _ _ _ _ (by omega) (by omega) (by omega) (by omega)).mono ?_; rintro e w2 ⟨rfl, o4, rfl⟩)
  rw [rounds_succ]
  go_wp2
  go_ret2
  refine ⟨rfl, ?_⟩
  repeat (first | exact HB.out | refine Below.alloc ?_ (by first | omega | (simp; omega) | (simp; done)) _)

set_option maxHeartbeats 3200000 in
theorem side1_f (v c x y k : Int) (pt pl : Nat) (w : World) (h : triB x y k = true) (hl : lineB v c = true) (hs : Steps w)
    (t0 : w.cell? ⟨pt, 0, none⟩ = some (.int .i64 x)) (t1 : w.cell? ⟨pt, 1, none⟩ = some (.int .i64 y)) (t2 : w.cell? ⟨pt, 2, none⟩ = some (.int .i64 k))
    (l0 : w.cell? ⟨pl, 0, none⟩ = some (.int .i64 v)) (l1 : w.cell? ⟨pl, 1, none⟩ = some (.int .i64 c)) (hsum : sumN v x y k ≤ 3 * c) :
    Calls Tryz.prog 95 #[.pointer (some ⟨pt, 0, none⟩), .pointer (some ⟨pl, 0, none⟩)] w fun e w' => e = .returned (.tuple #[.int .i64 (-1), .int .i64 0]) ∧ Below w.heap.size w w' := by
  obtain ⟨_, _, b1, b2, b3, b4⟩ := tri_bd h
  have hc : -1000000 ≤ c ∧ c ≤ 1000000 := by have : 0 ≤ v ∧ v ≤ 3 ∧ -1000000 ≤ c ∧ c ≤ 1000000 ∧ c % 2 = 0 := by simpa [lineB] using hl
                                             omega
  obtain ⟨hc1, hc2⟩ := hc
  have ex1 := c1x_bd x k
  have ey1 := c1y_bd y k
  have ex2 := c2x_bd x k
  have ey2 := c2y_bd y k
  have v0 := along_bd v (2 * x + 1) (2 * y + 1) (by omega) (by omega) (by omega) (by omega)
  have v1 := along_bd v (c1x x k) (c1y y k) (by omega) (by omega) (by omega) (by omega)
  have v2 := along_bd v (c2x x k) (c2y y k) (by omega) (by omega) (by omega) (by omega)
  have hi := fun w => index3 (.int .i64 (2 * x + 1)) (.int .i64 (2 * y + 1)) (.int .i64 (c1x x k)) (.int .i64 (c1y y k)) (.int .i64 (c2x x k)) (.int .i64 (c2y y k)) w
  have hi0 := fun w => (hi w).1
  have hi1 := fun w => (hi w).2.1
  have hi2 := fun w => (hi w).2.2
  clear hi
  unfold sumN at hsum
  go_enter Tryz.func95, Tryz.ntmps95
  go_wp2_with (go_at_call 70; refine (corners_any _ _ _ _ h hs).mono ?_; rintro e w1 ⟨rfl, hb1⟩)
  have m0 : w1.cell? ⟨pl, 0, none⟩ = some (.int .i64 v) := cell_kept hb1 l0
  have m1 : w1.cell? ⟨pl, 1, none⟩ = some (.int .i64 c) := cell_kept hb1 l1
  have hz : pl < w.heap.size := lt_of_cell l0
  have hz1 : w.heap.size ≤ w1.heap.size := hb1.size
  have hz2 : pl < w1.heap.size := by omega
  have hy1 : pl < w1.heap.size + 1 := by omega
  have hy2 : pl < w1.heap.size + 1 + 1 := by omega
  have hy3 : pl < w1.heap.size + 1 + 1 + 1 := by omega
  have hy4 : pl < w1.heap.size + 1 + 1 + 1 + 1 := by omega
  have hy5 : pl < w1.heap.size + 1 + 1 + 1 + 1 + 1 := by omega
  have hy6 : pl < w1.heap.size + 1 + 1 + 1 + 1 + 1 + 1 := by omega
  have HB : Hid (Below w.heap.size w w1) := hb1
  clear hb1 t0 t1 t2 l0 l1 hs
  refine wp_loop_rounds 4 ?_
  rw [rounds_succ]
  go_wp2_with (go_at_call 96; refine (along_any _ _ _ _ (by omega) (by omega) (by omega) (by omega)).mono ?_; rintro e w2 ⟨rfl, o2, rfl⟩)
  rw [rounds_succ]
  go_wp2_with (go_at_call 96; refine (along_any _ _ _ _ (by omega) (by omega) (by omega) (by omega)).mono ?_; rintro e w2 ⟨rfl, o3, rfl⟩)
  rw [rounds_succ]
  go_wp2_with (go_at_call 96; refine (along_any _ _ _ _ (by omega) (by omega) (by omega) (by omega)).mono ?_; rintro e w2 ⟨rfl, o4, rfl⟩)
  rw [rounds_succ]
  go_wp2
  go_ret2
  refine ⟨rfl, ?_⟩
  repeat (first | exact HB.out | refine Below.alloc ?_ (by first | omega | (simp; omega) | (simp; done)) _)

theorem sum_side (v c x y k : Int) (h : triB x y k = true) (hl : lineB v c = true) : sideN v c x y k = if 3 * c < sumN v x y k then 1 else -1 := by
  obtain ⟨_, _, b1, b2, b3, b4⟩ := tri_bd h
  have hb : 0 ≤ v ∧ v ≤ 3 ∧ -1000000 ≤ c ∧ c ≤ 1000000 ∧ c % 2 = 0 := by simpa [lineB] using hl
  obtain ⟨_, _, _, _, he⟩ := hb
  have hv : v = 0 ∨ v = 1 ∨ v = 2 ∨ v = 3 := by omega
  have hk : k = 0 ∨ k = 1 ∨ k = 2 ∨ k = 3 := by omega
  clear h hl
  rcases hv with rfl | rfl | rfl | rfl <;> rcases hk with rfl | rfl | rfl | rfl <;> simp [sideN, sumN, alongOf, c1x, c1y, c2x, c2y, stX, stY] <;> split <;> split <;> omega

theorem side1_any (v c x y k : Int) (pt pl : Nat) (w : World) (h : triB x y k = true) (hl : lineB v c = true) (hs : Steps w)
    (t0 : w.cell? ⟨pt, 0, none⟩ = some (.int .i64 x)) (t1 : w.cell? ⟨pt, 1, none⟩ = some (.int .i64 y)) (t2 : w.cell? ⟨pt, 2, none⟩ = some (.int .i64 k))
    (l0 : w.cell? ⟨pl, 0, none⟩ = some (.int .i64 v)) (l1 : w.cell? ⟨pl, 1, none⟩ = some (.int .i64 c)) :
    Calls Tryz.prog 95 #[.pointer (some ⟨pt, 0, none⟩), .pointer (some ⟨pl, 0, none⟩)] w fun e w' => e = .returned (.tuple #[.int .i64 (sideN v c x y k), .int .i64 0]) ∧ Below w.heap.size w w' := by
  rw [sum_side v c x y k h hl]
  by_cases hsum : 3 * c < sumN v x y k
  · rw [if_pos hsum]; exact side1_t v c x y k pt pl w h hl hs t0 t1 t2 l0 l1 hsum
  · rw [if_neg hsum]; exact side1_f v c x y k pt pl w h hl hs t0 t1 t2 l0 l1 (by omega)

theorem answerInt_no (f : Value) (w : World) :
    Calls Tryz.prog 93 #[.bool false, f] w fun r w' => r = .returned (.tuple #[.int .i64 0, .int .i64 3]) ∧ w' = w := by
  go_enter Tryz.func93, Tryz.ntmps93
  go_wp2
  go_ret2
  exact ⟨rfl, rfl⟩

theorem answerSide (v c x y k : Int) (pt pl : Nat) (w : World) (h : triB x y k = true) (hl : lineB v c = true) (hs : Steps w)
    (t0 : w.cell? ⟨pt, 0, none⟩ = some (.int .i64 x)) (t1 : w.cell? ⟨pt, 1, none⟩ = some (.int .i64 y)) (t2 : w.cell? ⟨pt, 2, none⟩ = some (.int .i64 k))
    (l0 : w.cell? ⟨pl, 0, none⟩ = some (.int .i64 v)) (l1 : w.cell? ⟨pl, 1, none⟩ = some (.int .i64 c)) :
    Calls Tryz.prog 93 #[.bool true, .func (.func 95) #[] #[.pointer (some ⟨pt, 0, none⟩), .pointer (some ⟨pl, 0, none⟩)]] w fun e w' => e = .returned (.tuple #[.int .i64 (sideN v c x y k), .int .i64 0]) ∧ Below w.heap.size w w' := by
  have hcall := side1_any v c x y k pt pl w h hl hs t0 t1 t2 l0 l1
  clear t0 t1 t2 l0 l1 hs h hl
  go_enter Tryz.func93, Tryz.ntmps93
  go_wp2_with (go_at_call 95; refine hcall.mono ?_; rintro e w1 ⟨rfl, hb1⟩)
  go_ret2
  exact ⟨rfl, hb1⟩

theorem make_fun (fn : Fn) (first cap : Array Value) (w : World) : (Instr.makeFunc fn first cap).run Tryz.prog w = .ok (.func fn first cap) w := rfl

set_option maxHeartbeats 800000 in
theorem Side_in (v c x y k : Int) (w : World) (h : triB x y k = true) (hl : lineB v c = true) (hs : Steps w) :
    Calls Tryz.prog 49 #[.agg #[.int .i64 v, .int .i64 c], .agg #[.int .i64 x, .int .i64 y, .int .i64 k]] w fun e w' => e = .returned (.tuple #[.int .i64 (sideN v c x y k), .int .i64 0]) ∧ Below w.heap.size w w' := by
  have hmf := make_fun
  have HS : Hid (Steps w) := hs
  clear hs
  go_enter Tryz.func49, Tryz.ntmps49
  go_wp2_with (first | (go_at_call 94; refine (mayLine_any _ _ _).mono ?_; rintro e w1 ⟨rfl, o0, rfl⟩) | (go_at_call 68; refine (mayTri_any _ _ _ _).mono ?_; rintro e w1 ⟨rfl, o1, rfl⟩) | (go_at_call 93; refine (answerSide v c x y k _ _ _ h hl (HS.out.kept (by repeat (first | exact Below.refl _ _ | refine Below.alloc ?_ (by first | omega | (simp; omega) | (simp; done)) _))) (by simp [go_sem]) (by simp [go_sem]) (by simp [go_sem]) (by simp [go_sem]) (by simp [go_sem])).mono ?_; rintro e w2 ⟨rfl, hb2⟩))
  go_ret2
  refine ⟨rfl, below_via ?_ hb2⟩
  repeat (first | exact Below.refl _ _ | refine Below.alloc ?_ (by first | omega | (simp; omega) | (simp; done)) _)

set_option maxHeartbeats 800000 in
theorem Side_out (v c x y k : Int) (w : World) (h : lineB v c = false ∨ triB x y k = false) :
    Calls Tryz.prog 49 #[.agg #[.int .i64 v, .int .i64 c], .agg #[.int .i64 x, .int .i64 y, .int .i64 k]] w fun e w' => e = .returned (.tuple #[.int .i64 0, .int .i64 3]) ∧ Below w.heap.size w w' := by
  have hmf := make_fun
  by_cases hl : lineB v c = true
  · have ht : triB x y k = false := by rcases h with h | h; · rw [h] at hl; cases hl
                                       · exact h
    clear h
    go_enter Tryz.func49, Tryz.ntmps49
    go_wp2_with (first | (go_at_call 94; refine (mayLine_any _ _ _).mono ?_; rintro e w1 ⟨rfl, o0, rfl⟩) | (go_at_call 68; refine (mayTri_any _ _ _ _).mono ?_; rintro e w1 ⟨rfl, o1, rfl⟩) | (go_at_call 93; refine (answerInt_no _ _).mono ?_; rintro e w2 ⟨rfl, rfl⟩))
    go_ret2
    refine ⟨rfl, ?_⟩
    repeat (first | exact Below.refl _ _ | refine Below.alloc ?_ (by first | omega | (simp; omega) | (simp; done)) _)
  · have hl' : lineB v c = false := by simpa using hl
    clear h hl
    go_enter Tryz.func49, Tryz.ntmps49
    go_wp2_with (first | (go_at_call 94; refine (mayLine_any _ _ _).mono ?_; rintro e w1 ⟨rfl, o0, rfl⟩) | (go_at_call 68; refine (mayTri_any _ _ _ _).mono ?_; rintro e w1 ⟨rfl, o1, rfl⟩) | (go_at_call 93; refine (answerInt_no _ _).mono ?_; rintro e w2 ⟨rfl, rfl⟩))
    go_ret2
    refine ⟨rfl, ?_⟩
    repeat (first | exact Below.refl _ _ | refine Below.alloc ?_ (by first | omega | (simp; omega) | (simp; done)) _)

end Go.Proofs.YtmjhfdohcghhoaaGreatDoor
