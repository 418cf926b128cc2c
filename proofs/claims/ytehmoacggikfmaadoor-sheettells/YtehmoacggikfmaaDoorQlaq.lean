/- The reference's corners of a triangle. -/
import Derived.Test.YtehmoacggikfmaaDoorQlab
import Derived.Deep.QuietTactic
import Derived.BigQuiet
namespace Go.Proofs.YtehmoacggikfmaaDoor
open Go.RowKit

/-- Six numbers in a row of memory. -/
def Six (w : World) (g : Nat) (a b c d e f : Int) : Prop :=
  w.cell? ⟨g, 0, none⟩ = some (.int .i64 a) ∧ w.cell? ⟨g, 1, none⟩ = some (.int .i64 b) ∧ w.cell? ⟨g, 2, none⟩ = some (.int .i64 c) ∧ w.cell? ⟨g, 3, none⟩ = some (.int .i64 d) ∧ w.cell? ⟨g, 4, none⟩ = some (.int .i64 e) ∧ w.cell? ⟨g, 5, none⟩ = some (.int .i64 f)

theorem Below.drewN {B : Nat} {a w : World} (h : Below B a w) (n : Nat) : Below B a (w.drewN n) := ⟨h.os, h.tape, h.output, h.size, h.block⟩

theorem six_of (x y k a b c d : Int) (h1 : c1x x k = a) (h2 : c1y y k = b) (h3 : c2x x k = c) (h4 : c2y y k = d) {w : World} {g : Nat} (h : Six w g (2 * x + 1) (2 * y + 1) a b c d) : Six w g (2 * x + 1) (2 * y + 1) (c1x x k) (c1y y k) (c2x x k) (c2y y k) := by
  subst h1 h2 h3 h4; exact h

set_option maxHeartbeats 1600000 in
theorem cornersOf_0 (x y : Int) (w : World) (h : triB x y 0 = true) :
    Calls Tryd.prog 55 #[.agg #[.int .i64 x, .int .i64 y, .int .i64 0]] w fun e w' => ∃ g, e = .returned (.slice (some ⟨g, 0, none⟩) 3 3) ∧ w.heap.size ≤ g ∧ Six w' g (2 * x + 1) (2 * y + 1) (c1x x 0) (c1y y 0) (c2x x 0) (c2y y 0) ∧ Below w.heap.size w w' := by
  have hb : -1000000 ≤ x ∧ x ≤ 1000000 ∧ -1000000 ≤ y ∧ y ≤ 1000000 := by simpa [triB] using h
  obtain ⟨b1, b2, b3, b4⟩ := hb
  have e1 : Hid (c1x x 0 = 2 * x + 0 ∧ c1y y 0 = 2 * y + 0 ∧ c2x x 0 = 2 * x + 2 ∧ c2y y 0 = 2 * y + 0) := by
    simp [Hid, c1x, c1y, c2x, c2y, stX, stY] <;> omega
  go_enter Tryd.func55, Tryd.ntmps55
  go_wp2
  go_quiet (fail)
  go_wp2
  go_ret
  refine ⟨_, rfl, by omega, six_of x y 0 _ _ _ _ e1.out.1 e1.out.2.1 e1.out.2.2.1 e1.out.2.2.2 ?_, ?_⟩
  · simp [Six, go_sem]
  · repeat (first | exact Below.refl _ _ | refine Below.alloc ?_ (by simp; try omega) _ | refine Below.drewN ?_ _)

set_option maxHeartbeats 1600000 in
theorem cornersOf_1 (x y : Int) (w : World) (h : triB x y 1 = true) :
    Calls Tryd.prog 55 #[.agg #[.int .i64 x, .int .i64 y, .int .i64 1]] w fun e w' => ∃ g, e = .returned (.slice (some ⟨g, 0, none⟩) 3 3) ∧ w.heap.size ≤ g ∧ Six w' g (2 * x + 1) (2 * y + 1) (c1x x 1) (c1y y 1) (c2x x 1) (c2y y 1) ∧ Below w.heap.size w w' := by
  have hb : -1000000 ≤ x ∧ x ≤ 1000000 ∧ -1000000 ≤ y ∧ y ≤ 1000000 := by simpa [triB] using h
  obtain ⟨b1, b2, b3, b4⟩ := hb
  have e1 : Hid (c1x x 1 = 2 * x + 2 ∧ c1y y 1 = 2 * y + 0 ∧ c2x x 1 = 2 * x + 2 ∧ c2y y 1 = 2 * y + 2) := by
    simp [Hid, c1x, c1y, c2x, c2y, stX, stY] <;> omega
  go_enter Tryd.func55, Tryd.ntmps55
  go_wp2
  go_quiet (fail)
  go_wp2
  go_ret
  refine ⟨_, rfl, by omega, six_of x y 1 _ _ _ _ e1.out.1 e1.out.2.1 e1.out.2.2.1 e1.out.2.2.2 ?_, ?_⟩
  · simp [Six, go_sem]
  · repeat (first | exact Below.refl _ _ | refine Below.alloc ?_ (by simp; try omega) _ | refine Below.drewN ?_ _)

set_option maxHeartbeats 1600000 in
theorem cornersOf_2 (x y : Int) (w : World) (h : triB x y 2 = true) :
    Calls Tryd.prog 55 #[.agg #[.int .i64 x, .int .i64 y, .int .i64 2]] w fun e w' => ∃ g, e = .returned (.slice (some ⟨g, 0, none⟩) 3 3) ∧ w.heap.size ≤ g ∧ Six w' g (2 * x + 1) (2 * y + 1) (c1x x 2) (c1y y 2) (c2x x 2) (c2y y 2) ∧ Below w.heap.size w w' := by
  have hb : -1000000 ≤ x ∧ x ≤ 1000000 ∧ -1000000 ≤ y ∧ y ≤ 1000000 := by simpa [triB] using h
  obtain ⟨b1, b2, b3, b4⟩ := hb
  have e1 : Hid (c1x x 2 = 2 * x + 2 ∧ c1y y 2 = 2 * y + 2 ∧ c2x x 2 = 2 * x + 0 ∧ c2y y 2 = 2 * y + 2) := by
    simp [Hid, c1x, c1y, c2x, c2y, stX, stY] <;> omega
  go_enter Tryd.func55, Tryd.ntmps55
  go_wp2
  go_quiet (fail)
  go_wp2
  go_ret
  refine ⟨_, rfl, by omega, six_of x y 2 _ _ _ _ e1.out.1 e1.out.2.1 e1.out.2.2.1 e1.out.2.2.2 ?_, ?_⟩
  · simp [Six, go_sem]
  · repeat (first | exact Below.refl _ _ | refine Below.alloc ?_ (by simp; try omega) _ | refine Below.drewN ?_ _)

set_option maxHeartbeats 1600000 in
theorem cornersOf_3 (x y : Int) (w : World) (h : triB x y 3 = true) :
    Calls Tryd.prog 55 #[.agg #[.int .i64 x, .int .i64 y, .int .i64 3]] w fun e w' => ∃ g, e = .returned (.slice (some ⟨g, 0, none⟩) 3 3) ∧ w.heap.size ≤ g ∧ Six w' g (2 * x + 1) (2 * y + 1) (c1x x 3) (c1y y 3) (c2x x 3) (c2y y 3) ∧ Below w.heap.size w w' := by
  have hb : -1000000 ≤ x ∧ x ≤ 1000000 ∧ -1000000 ≤ y ∧ y ≤ 1000000 := by simpa [triB] using h
  obtain ⟨b1, b2, b3, b4⟩ := hb
  have e1 : Hid (c1x x 3 = 2 * x + 0 ∧ c1y y 3 = 2 * y + 2 ∧ c2x x 3 = 2 * x + 0 ∧ c2y y 3 = 2 * y + 0) := by
    simp [Hid, c1x, c1y, c2x, c2y, stX, stY] <;> omega
  go_enter Tryd.func55, Tryd.ntmps55
  go_wp2
  go_quiet (fail)
  go_wp2
  go_ret
  refine ⟨_, rfl, by omega, six_of x y 3 _ _ _ _ e1.out.1 e1.out.2.1 e1.out.2.2.1 e1.out.2.2.2 ?_, ?_⟩
  · simp [Six, go_sem]
  · repeat (first | exact Below.refl _ _ | refine Below.alloc ?_ (by simp; try omega) _ | refine Below.drewN ?_ _)

theorem cornersOf_any (x y k : Int) (w : World) (h : triB x y k = true) :
    Calls Tryd.prog 55 #[.agg #[.int .i64 x, .int .i64 y, .int .i64 k]] w fun e w' => ∃ g, e = .returned (.slice (some ⟨g, 0, none⟩) 3 3) ∧ w.heap.size ≤ g ∧ Six w' g (2 * x + 1) (2 * y + 1) (c1x x k) (c1y y k) (c2x x k) (c2y y k) ∧ Below w.heap.size w w' := by
  have hk : k = 0 ∨ k = 1 ∨ k = 2 ∨ k = 3 := by have := h; simp [triB] at this; omega
  rcases hk with rfl | rfl | rfl | rfl
  · exact cornersOf_0 x y w h
  · exact cornersOf_1 x y w h
  · exact cornersOf_2 x y w h
  · exact cornersOf_3 x y w h

end Go.Proofs.YtehmoacggikfmaaDoor
