import Derived.Test.YtoedcefbmbfnhabDoorPkab
import Derived.Test.YtoedcefbmbfnhabDoorPkaa
import Derived.Deep.QuietTactic
import Derived.BigQuiet
/- What lies across an edge: the numbers. -/
namespace Go.Proofs.YtoedcefbmbfnhabDoor
open Go.RowKit

/-- The twelve numbers of a triangle's edges. -/
def ue0 (x y k : Int) : Int := eA (2 * x + 1) (2 * y + 1) (c1x x k) (c1y y k)
def ue1 (x y k : Int) : Int := eB (2 * x + 1) (2 * y + 1) (c1x x k) (c1y y k)
def ue2 (x y k : Int) : Int := eC (2 * x + 1) (2 * y + 1) (c1x x k) (c1y y k)
def ue3 (x y k : Int) : Int := eD (2 * x + 1) (2 * y + 1) (c1x x k) (c1y y k)
def ue4 (x y k : Int) : Int := eA (c1x x k) (c1y y k) (c2x x k) (c2y y k)
def ue5 (x y k : Int) : Int := eB (c1x x k) (c1y y k) (c2x x k) (c2y y k)
def ue6 (x y k : Int) : Int := eC (c1x x k) (c1y y k) (c2x x k) (c2y y k)
def ue7 (x y k : Int) : Int := eD (c1x x k) (c1y y k) (c2x x k) (c2y y k)
def ue8 (x y k : Int) : Int := eA (c2x x k) (c2y y k) (2 * x + 1) (2 * y + 1)
def ue9 (x y k : Int) : Int := eB (c2x x k) (c2y y k) (2 * x + 1) (2 * y + 1)
def ue10 (x y k : Int) : Int := eC (c2x x k) (c2y y k) (2 * x + 1) (2 * y + 1)
def ue11 (x y k : Int) : Int := eD (c2x x k) (c2y y k) (2 * x + 1) (2 * y + 1)
/-- Are two edges one? -/
def sameB (a b c d p q r s : Int) : Bool := decide (a = p ∧ b = q ∧ c = r ∧ d = s)
/-- The three edges of a triangle, number by number: is one of them this? -/
def e0 (x y k p q r s : Int) : Bool := sameB (ue0 x y k) (ue1 x y k) (ue2 x y k) (ue3 x y k) p q r s
def e1 (x y k p q r s : Int) : Bool := sameB (ue4 x y k) (ue5 x y k) (ue6 x y k) (ue7 x y k) p q r s
def e2 (x y k p q r s : Int) : Bool := sameB (ue8 x y k) (ue9 x y k) (ue10 x y k) (ue11 x y k) p q r s
theorem e0_0 (x y p q r s : Int) : e0 x y 0 p q r s = true ↔ (2 * x = p ∧ 2 * y = q ∧ 2 * x + 1 = r ∧ 2 * y + 1 = s) := by
  simp [e0, sameB, ue0, ue1, ue2, ue3, eA, eB, eC, eD, lessB, c1x, c1y, stX, stY] <;> omega
theorem e1_0 (x y p q r s : Int) : e1 x y 0 p q r s = true ↔ (2 * x = p ∧ 2 * y = q ∧ 2 * x + 2 = r ∧ 2 * y = s) := by
  simp [e1, sameB, ue4, ue5, ue6, ue7, eA, eB, eC, eD, lessB, c1x, c1y, c2x, c2y, stX, stY] <;> omega
theorem e2_0 (x y p q r s : Int) : e2 x y 0 p q r s = true ↔ (2 * x + 1 = p ∧ 2 * y + 1 = q ∧ 2 * x + 2 = r ∧ 2 * y = s) := by
  simp [e2, sameB, ue8, ue9, ue10, ue11, eA, eB, eC, eD, lessB, c2x, c2y, stX, stY] <;> omega
theorem e0_1 (x y p q r s : Int) : e0 x y 1 p q r s = true ↔ (2 * x + 1 = p ∧ 2 * y + 1 = q ∧ 2 * x + 2 = r ∧ 2 * y = s) := by
  simp [e0, sameB, ue0, ue1, ue2, ue3, eA, eB, eC, eD, lessB, c1x, c1y, stX, stY] <;> omega
theorem e1_1 (x y p q r s : Int) : e1 x y 1 p q r s = true ↔ (2 * x + 2 = p ∧ 2 * y = q ∧ 2 * x + 2 = r ∧ 2 * y + 2 = s) := by
  simp [e1, sameB, ue4, ue5, ue6, ue7, eA, eB, eC, eD, lessB, c1x, c1y, c2x, c2y, stX, stY] <;> omega
theorem e2_1 (x y p q r s : Int) : e2 x y 1 p q r s = true ↔ (2 * x + 1 = p ∧ 2 * y + 1 = q ∧ 2 * x + 2 = r ∧ 2 * y + 2 = s) := by
  simp [e2, sameB, ue8, ue9, ue10, ue11, eA, eB, eC, eD, lessB, c2x, c2y, stX, stY] <;> omega
theorem e0_2 (x y p q r s : Int) : e0 x y 2 p q r s = true ↔ (2 * x + 1 = p ∧ 2 * y + 1 = q ∧ 2 * x + 2 = r ∧ 2 * y + 2 = s) := by
  simp [e0, sameB, ue0, ue1, ue2, ue3, eA, eB, eC, eD, lessB, c1x, c1y, stX, stY] <;> omega
theorem e1_2 (x y p q r s : Int) : e1 x y 2 p q r s = true ↔ (2 * x = p ∧ 2 * y + 2 = q ∧ 2 * x + 2 = r ∧ 2 * y + 2 = s) := by
  simp [e1, sameB, ue4, ue5, ue6, ue7, eA, eB, eC, eD, lessB, c1x, c1y, c2x, c2y, stX, stY] <;> omega
theorem e2_2 (x y p q r s : Int) : e2 x y 2 p q r s = true ↔ (2 * x = p ∧ 2 * y + 2 = q ∧ 2 * x + 1 = r ∧ 2 * y + 1 = s) := by
  simp [e2, sameB, ue8, ue9, ue10, ue11, eA, eB, eC, eD, lessB, c2x, c2y, stX, stY] <;> omega
theorem e0_3 (x y p q r s : Int) : e0 x y 3 p q r s = true ↔ (2 * x = p ∧ 2 * y + 2 = q ∧ 2 * x + 1 = r ∧ 2 * y + 1 = s) := by
  simp [e0, sameB, ue0, ue1, ue2, ue3, eA, eB, eC, eD, lessB, c1x, c1y, stX, stY] <;> omega
theorem e1_3 (x y p q r s : Int) : e1 x y 3 p q r s = true ↔ (2 * x = p ∧ 2 * y = q ∧ 2 * x = r ∧ 2 * y + 2 = s) := by
  simp [e1, sameB, ue4, ue5, ue6, ue7, eA, eB, eC, eD, lessB, c1x, c1y, c2x, c2y, stX, stY] <;> omega
theorem e2_3 (x y p q r s : Int) : e2 x y 3 p q r s = true ↔ (2 * x = p ∧ 2 * y = q ∧ 2 * x + 1 = r ∧ 2 * y + 1 = s) := by
  simp [e2, sameB, ue8, ue9, ue10, ue11, eA, eB, eC, eD, lessB, c2x, c2y, stX, stY] <;> omega

/-- Has a triangle this edge? -/
def hasB (x y k p q r s : Int) : Bool := e0 x y k p q r s || e1 x y k p q r s || e2 x y k p q r s
/-- The triangle across an edge, number by number, and the answer's code. -/
def acX (x y k p q r s : Int) : Int := if e0 x y k p q r s = true then x else if e1 x y k p q r s = true then x + outX k else if e2 x y k p q r s = true then x else 0
def acY (x y k p q r s : Int) : Int := if e0 x y k p q r s = true then y else if e1 x y k p q r s = true then y + outY k else if e2 x y k p q r s = true then y else 0
def acK (x y k p q r s : Int) : Int := if e0 x y k p q r s = true then (k + 3) % 4 else if e1 x y k p q r s = true then (k + 2) % 4 else if e2 x y k p q r s = true then (k + 1) % 4 else 0
def acC (x y k p q r s : Int) : Int := if e0 x y k p q r s = true then 0 else if e1 x y k p q r s = true then 0 else if e2 x y k p q r s = true then 0 else 5

theorem hasB_or (x y k p q r s : Int) : hasB x y k p q r s = true ↔ (e0 x y k p q r s = true ∨ e1 x y k p q r s = true ∨ e2 x y k p q r s = true) := by
  simp [hasB, or_assoc]

/-- Another triangle nearby that has the edge. -/
def Oth (x y k p q r s dx dy l : Int) : Prop := hasB (x + dx) (y + dy) l p q r s = true ∧ ¬ (x + dx = x ∧ y + dy = y ∧ l = k)

set_option maxHeartbeats 1600000 in
theorem across_is (x y k p q r s dx dy l : Int) (k0 : 0 ≤ k) (k3 : k ≤ 3) (l0 : 0 ≤ l) (l3 : l ≤ 3) (h : hasB x y k p q r s = true) (ho : Oth x y k p q r s dx dy l) :
    x + dx = acX x y k p q r s ∧ y + dy = acY x y k p q r s ∧ l = acK x y k p q r s := by
  have hk : k = 0 ∨ k = 1 ∨ k = 2 ∨ k = 3 := by omega
  have hl : l = 0 ∨ l = 1 ∨ l = 2 ∨ l = 3 := by omega
  obtain ⟨h2, h3⟩ := ho
  rw [hasB_or] at h h2
  rcases hk with rfl | rfl | rfl | rfl <;> simp only [acX, acY, acK, outX, outY, e0_0, e0_1, e0_2, e0_3, e1_0, e1_1, e1_2, e1_3, e2_0, e2_1, e2_2, e2_3] at h ⊢ <;> rcases h with ⟨rfl, rfl, rfl, rfl⟩ | ⟨rfl, rfl, rfl, rfl⟩ | ⟨rfl, rfl, rfl, rfl⟩ <;> simp <;> rcases hl with rfl | rfl | rfl | rfl <;> simp only [e0_0, e0_1, e0_2, e0_3, e1_0, e1_1, e1_2, e1_3, e2_0, e2_1, e2_2, e2_3] at h2 <;> omega

theorem across_has (x y k p q r s : Int) (k0 : 0 ≤ k) (k3 : k ≤ 3) (h : hasB x y k p q r s = true) :
    ∃ dx dy l : Int, (-1 ≤ dx ∧ dx ≤ 1) ∧ (-1 ≤ dy ∧ dy ≤ 1) ∧ (0 ≤ l ∧ l ≤ 3) ∧ Oth x y k p q r s dx dy l := by
  have hk : k = 0 ∨ k = 1 ∨ k = 2 ∨ k = 3 := by omega
  rw [hasB_or] at h
  unfold Oth
  simp only [hasB_or]
  rcases hk with rfl | rfl | rfl | rfl <;> simp only [e0_0, e0_1, e0_2, e0_3, e1_0, e1_1, e1_2, e1_3, e2_0, e2_1, e2_2, e2_3] at h <;> rcases h with h | h | h
  · exact ⟨0, 0, 3, by omega, by omega, by omega, by simp only [e0_3, e1_3, e2_3]; omega, by omega⟩
  · exact ⟨0, -1, 2, by omega, by omega, by omega, by simp only [e0_2, e1_2, e2_2]; omega, by omega⟩
  · exact ⟨0, 0, 1, by omega, by omega, by omega, by simp only [e0_1, e1_1, e2_1]; omega, by omega⟩
  · exact ⟨0, 0, 0, by omega, by omega, by omega, by simp only [e0_0, e1_0, e2_0]; omega, by omega⟩
  · exact ⟨1, 0, 3, by omega, by omega, by omega, by simp only [e0_3, e1_3, e2_3]; omega, by omega⟩
  · exact ⟨0, 0, 2, by omega, by omega, by omega, by simp only [e0_2, e1_2, e2_2]; omega, by omega⟩
  · exact ⟨0, 0, 1, by omega, by omega, by omega, by simp only [e0_1, e1_1, e2_1]; omega, by omega⟩
  · exact ⟨0, 1, 0, by omega, by omega, by omega, by simp only [e0_0, e1_0, e2_0]; omega, by omega⟩
  · exact ⟨0, 0, 3, by omega, by omega, by omega, by simp only [e0_3, e1_3, e2_3]; omega, by omega⟩
  · exact ⟨0, 0, 2, by omega, by omega, by omega, by simp only [e0_2, e1_2, e2_2]; omega, by omega⟩
  · exact ⟨-1, 0, 1, by omega, by omega, by omega, by simp only [e0_1, e1_1, e2_1]; omega, by omega⟩
  · exact ⟨0, 0, 0, by omega, by omega, by omega, by simp only [e0_0, e1_0, e2_0]; omega, by omega⟩

end Go.Proofs.YtoedcefbmbfnhabDoor

/- The reference's corners of a triangle. -/
namespace Go.Proofs.YtoedcefbmbfnhabDoor
open Go.RowKit

/-- Six numbers in a row of memory. -/
def Six (w : World) (g : Nat) (a b c d e f : Int) : Prop :=
  w.cell? ⟨g, 0, none⟩ = some (.int .i64 a) ∧ w.cell? ⟨g, 1, none⟩ = some (.int .i64 b) ∧ w.cell? ⟨g, 2, none⟩ = some (.int .i64 c) ∧ w.cell? ⟨g, 3, none⟩ = some (.int .i64 d) ∧ w.cell? ⟨g, 4, none⟩ = some (.int .i64 e) ∧ w.cell? ⟨g, 5, none⟩ = some (.int .i64 f)

theorem Below.drewN {B : Nat} {a w : World} (h : Below B a w) (n : Nat) : Below B a (w.drewN n) := ⟨h.os, h.tape, h.output, h.size, h.block⟩

theorem six_of (x y k a b c d : Int) (h1 : c1x x k = a) (h2 : c1y y k = b) (h3 : c2x x k = c) (h4 : c2y y k = d) {w : World} {g : Nat} (h : Six w g (2 * x + 1) (2 * y + 1) a b c d) : Six w g (2 * x + 1) (2 * y + 1) (c1x x k) (c1y y k) (c2x x k) (c2y y k) := by
  subst h1 h2 h3 h4; exact h

set_option maxHeartbeats 1600000 in
theorem cornersOf_0 (x y : Int) (w : World) (h : triB x y 0 = true) :
    Calls Tryd.prog 34 #[.agg #[.int .i64 x, .int .i64 y, .int .i64 0]] w fun e w' => ∃ g, e = .returned (.slice (some ⟨g, 0, none⟩) 3 3) ∧ w.heap.size ≤ g ∧ Six w' g (2 * x + 1) (2 * y + 1) (c1x x 0) (c1y y 0) (c2x x 0) (c2y y 0) ∧ Below w.heap.size w w' := by
  have hb : -1000000 ≤ x ∧ x ≤ 1000000 ∧ -1000000 ≤ y ∧ y ≤ 1000000 := by simpa [triB] using h
  obtain ⟨b1, b2, b3, b4⟩ := hb
  have e1 : Hid (c1x x 0 = 2 * x + 0 ∧ c1y y 0 = 2 * y + 0 ∧ c2x x 0 = 2 * x + 2 ∧ c2y y 0 = 2 * y + 0) := by
    simp [Hid, c1x, c1y, c2x, c2y, stX, stY] <;> omega
  go_enter Tryd.func34, Tryd.ntmps34
  go_wp2
  go_quiet (fail)
  go_wp2
  go_ret
  refine ⟨_, rfl, by omega, six_of x y 0 _ _ _ _ e1.out.1 e1.out.2.1 e1.out.2.2.1 e1.out.2.2.2 ?_, ?_⟩
  · simp [Six, go_sem]
  · repeat (first | exact Below.refl _ _ | refine Below.alloc ?_ (by simp; try omega) _ | refine Below.drewN ?_ _)

set_option maxHeartbeats 1600000 in
theorem cornersOf_1 (x y : Int) (w : World) (h : triB x y 1 = true) :
    Calls Tryd.prog 34 #[.agg #[.int .i64 x, .int .i64 y, .int .i64 1]] w fun e w' => ∃ g, e = .returned (.slice (some ⟨g, 0, none⟩) 3 3) ∧ w.heap.size ≤ g ∧ Six w' g (2 * x + 1) (2 * y + 1) (c1x x 1) (c1y y 1) (c2x x 1) (c2y y 1) ∧ Below w.heap.size w w' := by
  have hb : -1000000 ≤ x ∧ x ≤ 1000000 ∧ -1000000 ≤ y ∧ y ≤ 1000000 := by simpa [triB] using h
  obtain ⟨b1, b2, b3, b4⟩ := hb
  have e1 : Hid (c1x x 1 = 2 * x + 2 ∧ c1y y 1 = 2 * y + 0 ∧ c2x x 1 = 2 * x + 2 ∧ c2y y 1 = 2 * y + 2) := by
    simp [Hid, c1x, c1y, c2x, c2y, stX, stY] <;> omega
  go_enter Tryd.func34, Tryd.ntmps34
  go_wp2
  go_quiet (fail)
  go_wp2
  go_ret
  refine ⟨_, rfl, by omega, six_of x y 1 _ _ _ _ e1.out.1 e1.out.2.1 e1.out.2.2.1 e1.out.2.2.2 ?_, ?_⟩
  · simp [Six, go_sem]
  · repeat (first | exact Below.refl _ _ | refine Below.alloc ?_ (by simp; try omega) _ | refine Below.drewN ?_ _)

set_option maxHeartbeats 1600000 in
theorem cornersOf_2 (x y : Int) (w : World) (h : triB x y 2 = true) :
    Calls Tryd.prog 34 #[.agg #[.int .i64 x, .int .i64 y, .int .i64 2]] w fun e w' => ∃ g, e = .returned (.slice (some ⟨g, 0, none⟩) 3 3) ∧ w.heap.size ≤ g ∧ Six w' g (2 * x + 1) (2 * y + 1) (c1x x 2) (c1y y 2) (c2x x 2) (c2y y 2) ∧ Below w.heap.size w w' := by
  have hb : -1000000 ≤ x ∧ x ≤ 1000000 ∧ -1000000 ≤ y ∧ y ≤ 1000000 := by simpa [triB] using h
  obtain ⟨b1, b2, b3, b4⟩ := hb
  have e1 : Hid (c1x x 2 = 2 * x + 2 ∧ c1y y 2 = 2 * y + 2 ∧ c2x x 2 = 2 * x + 0 ∧ c2y y 2 = 2 * y + 2) := by
    simp [Hid, c1x, c1y, c2x, c2y, stX, stY] <;> omega
  go_enter Tryd.func34, Tryd.ntmps34
  go_wp2
  go_quiet (fail)
  go_wp2
  go_ret
  refine ⟨_, rfl, by omega, six_of x y 2 _ _ _ _ e1.out.1 e1.out.2.1 e1.out.2.2.1 e1.out.2.2.2 ?_, ?_⟩
  · simp [Six, go_sem]
  · repeat (first | exact Below.refl _ _ | refine Below.alloc ?_ (by simp; try omega) _ | refine Below.drewN ?_ _)

set_option maxHeartbeats 1600000 in
theorem cornersOf_3 (x y : Int) (w : World) (h : triB x y 3 = true) :
    Calls Tryd.prog 34 #[.agg #[.int .i64 x, .int .i64 y, .int .i64 3]] w fun e w' => ∃ g, e = .returned (.slice (some ⟨g, 0, none⟩) 3 3) ∧ w.heap.size ≤ g ∧ Six w' g (2 * x + 1) (2 * y + 1) (c1x x 3) (c1y y 3) (c2x x 3) (c2y y 3) ∧ Below w.heap.size w w' := by
  have hb : -1000000 ≤ x ∧ x ≤ 1000000 ∧ -1000000 ≤ y ∧ y ≤ 1000000 := by simpa [triB] using h
  obtain ⟨b1, b2, b3, b4⟩ := hb
  have e1 : Hid (c1x x 3 = 2 * x + 0 ∧ c1y y 3 = 2 * y + 2 ∧ c2x x 3 = 2 * x + 0 ∧ c2y y 3 = 2 * y + 0) := by
    simp [Hid, c1x, c1y, c2x, c2y, stX, stY] <;> omega
  go_enter Tryd.func34, Tryd.ntmps34
  go_wp2
  go_quiet (fail)
  go_wp2
  go_ret
  refine ⟨_, rfl, by omega, six_of x y 3 _ _ _ _ e1.out.1 e1.out.2.1 e1.out.2.2.1 e1.out.2.2.2 ?_, ?_⟩
  · simp [Six, go_sem]
  · repeat (first | exact Below.refl _ _ | refine Below.alloc ?_ (by simp; try omega) _ | refine Below.drewN ?_ _)

theorem cornersOf_any (x y k : Int) (w : World) (h : triB x y k = true) :
    Calls Tryd.prog 34 #[.agg #[.int .i64 x, .int .i64 y, .int .i64 k]] w fun e w' => ∃ g, e = .returned (.slice (some ⟨g, 0, none⟩) 3 3) ∧ w.heap.size ≤ g ∧ Six w' g (2 * x + 1) (2 * y + 1) (c1x x k) (c1y y k) (c2x x k) (c2y y k) ∧ Below w.heap.size w w' := by
  have hk : k = 0 ∨ k = 1 ∨ k = 2 ∨ k = 3 := by have := h; simp [triB] at this; omega
  rcases hk with rfl | rfl | rfl | rfl
  · exact cornersOf_0 x y w h
  · exact cornersOf_1 x y w h
  · exact cornersOf_2 x y w h
  · exact cornersOf_3 x y w h

end Go.Proofs.YtoedcefbmbfnhabDoor

/- The reference's corners of a triangle, wherever it lies. -/
namespace Go.Proofs.YtoedcefbmbfnhabDoor
open Go.RowKit

set_option maxHeartbeats 1600000 in
theorem cornersOfW_0 (x y : Int) (w : World) (b1 : -4000000 ≤ x) (b2 : x ≤ 4000000) (b3 : -4000000 ≤ y) (b4 : y ≤ 4000000) :
    Calls Tryd.prog 34 #[.agg #[.int .i64 x, .int .i64 y, .int .i64 0]] w fun e w' => ∃ g, e = .returned (.slice (some ⟨g, 0, none⟩) 3 3) ∧ w.heap.size ≤ g ∧ Mp w' g (2 * x + 1) (2 * y + 1) (2 * x) (2 * y) (2 * x + 2) (2 * y) ∧ Below w.heap.size w w' := by
  go_enter Tryd.func34, Tryd.ntmps34
  go_wp2
  go_quiet (fail)
  go_wp2
  go_ret
  refine ⟨_, rfl, by omega, ?_, ?_⟩
  · simp [Mp, go_sem]
  · with_reducible repeat (first | refine bl_alloc ?_ | refine bl_drewN ?_ | exact bl_refl _)

set_option maxHeartbeats 1600000 in
theorem cornersOfW_1 (x y : Int) (w : World) (b1 : -4000000 ≤ x) (b2 : x ≤ 4000000) (b3 : -4000000 ≤ y) (b4 : y ≤ 4000000) :
    Calls Tryd.prog 34 #[.agg #[.int .i64 x, .int .i64 y, .int .i64 1]] w fun e w' => ∃ g, e = .returned (.slice (some ⟨g, 0, none⟩) 3 3) ∧ w.heap.size ≤ g ∧ Mp w' g (2 * x + 1) (2 * y + 1) (2 * x + 2) (2 * y) (2 * x + 2) (2 * y + 2) ∧ Below w.heap.size w w' := by
  go_enter Tryd.func34, Tryd.ntmps34
  go_wp2
  go_quiet (fail)
  go_wp2
  go_ret
  refine ⟨_, rfl, by omega, ?_, ?_⟩
  · simp [Mp, go_sem]
  · with_reducible repeat (first | refine bl_alloc ?_ | refine bl_drewN ?_ | exact bl_refl _)

set_option maxHeartbeats 1600000 in
theorem cornersOfW_2 (x y : Int) (w : World) (b1 : -4000000 ≤ x) (b2 : x ≤ 4000000) (b3 : -4000000 ≤ y) (b4 : y ≤ 4000000) :
    Calls Tryd.prog 34 #[.agg #[.int .i64 x, .int .i64 y, .int .i64 2]] w fun e w' => ∃ g, e = .returned (.slice (some ⟨g, 0, none⟩) 3 3) ∧ w.heap.size ≤ g ∧ Mp w' g (2 * x + 1) (2 * y + 1) (2 * x + 2) (2 * y + 2) (2 * x) (2 * y + 2) ∧ Below w.heap.size w w' := by
  go_enter Tryd.func34, Tryd.ntmps34
  go_wp2
  go_quiet (fail)
  go_wp2
  go_ret
  refine ⟨_, rfl, by omega, ?_, ?_⟩
  · simp [Mp, go_sem]
  · with_reducible repeat (first | refine bl_alloc ?_ | refine bl_drewN ?_ | exact bl_refl _)

set_option maxHeartbeats 1600000 in
theorem cornersOfW_3 (x y : Int) (w : World) (b1 : -4000000 ≤ x) (b2 : x ≤ 4000000) (b3 : -4000000 ≤ y) (b4 : y ≤ 4000000) :
    Calls Tryd.prog 34 #[.agg #[.int .i64 x, .int .i64 y, .int .i64 3]] w fun e w' => ∃ g, e = .returned (.slice (some ⟨g, 0, none⟩) 3 3) ∧ w.heap.size ≤ g ∧ Mp w' g (2 * x + 1) (2 * y + 1) (2 * x) (2 * y + 2) (2 * x) (2 * y) ∧ Below w.heap.size w w' := by
  go_enter Tryd.func34, Tryd.ntmps34
  go_wp2
  go_quiet (fail)
  go_wp2
  go_ret
  refine ⟨_, rfl, by omega, ?_, ?_⟩
  · simp [Mp, go_sem]
  · with_reducible repeat (first | refine bl_alloc ?_ | refine bl_drewN ?_ | exact bl_refl _)

end Go.Proofs.YtoedcefbmbfnhabDoor

/- The reference's edges of a triangle, wherever it lies; has it an edge? -/
namespace Go.Proofs.YtoedcefbmbfnhabDoor
open Go.RowKit
attribute [local go_sem ↓] Go.wp_at_zero Go.wp_at_succ

/-- Twelve numbers in a row of memory. -/
def Twl (w : World) (g : Nat) (v0 v1 v2 v3 v4 v5 v6 v7 v8 v9 v10 v11 : Int) : Prop :=
  w.cell? ⟨g, 0, none⟩ = some (.int .i64 v0) ∧ w.cell? ⟨g, 1, none⟩ = some (.int .i64 v1) ∧ w.cell? ⟨g, 2, none⟩ = some (.int .i64 v2) ∧ w.cell? ⟨g, 3, none⟩ = some (.int .i64 v3) ∧ w.cell? ⟨g, 4, none⟩ = some (.int .i64 v4) ∧ w.cell? ⟨g, 5, none⟩ = some (.int .i64 v5) ∧ w.cell? ⟨g, 6, none⟩ = some (.int .i64 v6) ∧ w.cell? ⟨g, 7, none⟩ = some (.int .i64 v7) ∧ w.cell? ⟨g, 8, none⟩ = some (.int .i64 v8) ∧ w.cell? ⟨g, 9, none⟩ = some (.int .i64 v9) ∧ w.cell? ⟨g, 10, none⟩ = some (.int .i64 v10) ∧ w.cell? ⟨g, 11, none⟩ = some (.int .i64 v11)
theorem Twl.lt {w : World} {g : Nat} {v0 v1 v2 v3 v4 v5 v6 v7 v8 v9 v10 v11 : Int} (h : Twl w g v0 v1 v2 v3 v4 v5 v6 v7 v8 v9 v10 v11) : g < w.heap.size := World.block_lt_of_cell? _ _ h.1
theorem Twl.kept {w wx : World} {g : Nat} {v0 v1 v2 v3 v4 v5 v6 v7 v8 v9 v10 v11 : Int} (h : Twl w g v0 v1 v2 v3 v4 v5 v6 v7 v8 v9 v10 v11) (hb : Below w.heap.size w wx) : Twl wx g v0 v1 v2 v3 v4 v5 v6 v7 v8 v9 v10 v11 := by
  obtain ⟨h0, h1, h2, h3, h4, h5, h6, h7, h8, h9, h10, h11⟩ := h
  exact ⟨cl_kept hb h0, cl_kept hb h1, cl_kept hb h2, cl_kept hb h3, cl_kept hb h4, cl_kept hb h5, cl_kept hb h6, cl_kept hb h7, cl_kept hb h8, cl_kept hb h9, cl_kept hb h10, cl_kept hb h11⟩

theorem cornersOfW_any (x y k : Int) (w : World) (b1 : -4000000 ≤ x) (b2 : x ≤ 4000000) (b3 : -4000000 ≤ y) (b4 : y ≤ 4000000) (k0 : 0 ≤ k) (k3 : k ≤ 3) :
    Calls Tryd.prog 34 #[.agg #[.int .i64 x, .int .i64 y, .int .i64 k]] w fun e w' => ∃ g, e = .returned (.slice (some ⟨g, 0, none⟩) 3 3) ∧ w.heap.size ≤ g ∧ Mp w' g (2 * x + 1) (2 * y + 1) (c1x x k) (c1y y k) (c2x x k) (c2y y k) ∧ Below w.heap.size w w' := by
  have hk : k = 0 ∨ k = 1 ∨ k = 2 ∨ k = 3 := by omega
  rcases hk with rfl | rfl | rfl | rfl
  · have e1 : c1x x 0 = 2 * x := by simp [c1x, stX] <;> omega
    have e2 : c1y y 0 = 2 * y := by simp [c1y, stY] <;> omega
    have e3 : c2x x 0 = 2 * x + 2 := by simp [c2x, stX] <;> omega
    have e4 : c2y y 0 = 2 * y := by simp [c2y, stY] <;> omega
    rw [e1, e2, e3, e4]
    exact cornersOfW_0 x y w b1 b2 b3 b4
  · have e1 : c1x x 1 = 2 * x + 2 := by simp [c1x, stX] <;> omega
    have e2 : c1y y 1 = 2 * y := by simp [c1y, stY] <;> omega
    have e3 : c2x x 1 = 2 * x + 2 := by simp [c2x, stX] <;> omega
    have e4 : c2y y 1 = 2 * y + 2 := by simp [c2y, stY] <;> omega
    rw [e1, e2, e3, e4]
    exact cornersOfW_1 x y w b1 b2 b3 b4
  · have e1 : c1x x 2 = 2 * x + 2 := by simp [c1x, stX] <;> omega
    have e2 : c1y y 2 = 2 * y + 2 := by simp [c1y, stY] <;> omega
    have e3 : c2x x 2 = 2 * x := by simp [c2x, stX] <;> omega
    have e4 : c2y y 2 = 2 * y + 2 := by simp [c2y, stY] <;> omega
    rw [e1, e2, e3, e4]
    exact cornersOfW_2 x y w b1 b2 b3 b4
  · have e1 : c1x x 3 = 2 * x := by simp [c1x, stX] <;> omega
    have e2 : c1y y 3 = 2 * y + 2 := by simp [c1y, stY] <;> omega
    have e3 : c2x x 3 = 2 * x := by simp [c2x, stX] <;> omega
    have e4 : c2y y 3 = 2 * y := by simp [c2y, stY] <;> omega
    rw [e1, e2, e3, e4]
    exact cornersOfW_3 x y w b1 b2 b3 b4

set_option maxRecDepth 100000 in
set_option maxHeartbeats 3200000 in
theorem edgesOf_any (x y k : Int) (w : World) (b1 : -4000000 ≤ x) (b2 : x ≤ 4000000) (b3 : -4000000 ≤ y) (b4 : y ≤ 4000000) (k0 : 0 ≤ k) (k3 : k ≤ 3) :
    Calls Tryd.prog 31 #[.agg #[.int .i64 x, .int .i64 y, .int .i64 k]] w fun e w' => ∃ g, e = .returned (.slice (some ⟨g, 0, none⟩) 3 3) ∧ w.heap.size ≤ g ∧ Twl w' g (ue0 x y k) (ue1 x y k) (ue2 x y k) (ue3 x y k) (ue4 x y k) (ue5 x y k) (ue6 x y k) (ue7 x y k) (ue8 x y k) (ue9 x y k) (ue10 x y k) (ue11 x y k) ∧ Below w.heap.size w w' := by
  have C14 : Hid (∀ W : World, Calls Tryd.prog 34 #[.agg #[.int .i64 x, .int .i64 y, .int .i64 k]] W fun e w' => ∃ g, e = .returned (.slice (some ⟨g, 0, none⟩) 3 3) ∧ W.heap.size ≤ g ∧ Mp w' g (2 * x + 1) (2 * y + 1) (c1x x k) (c1y y k) (c2x x k) (c2y y k) ∧ Below W.heap.size W w') := fun W => cornersOfW_any x y k W b1 b2 b3 b4 k0 k3
  clear b1 b2 b3 b4 k0 k3
  go_enter Tryd.func31, Tryd.ntmps31
  go_wp2_with (go_at_call 34; refine (C14.out _).mono ?_; rintro r w1 ⟨g, rfl, hg, hM, hb⟩; have HB : Hid (w.heap.size ≤ w1.heap.size ∧ Below w.heap.size w w1) := ⟨(bl_via (bl_alloc (bl_refl _)) hb).size, bl_via (bl_alloc (bl_refl _)) hb⟩; clear hb hg; have zg := hM.lt; obtain ⟨m0, m1, m2, m3, m4, m5⟩ := hM)
  go_region_held3 (fun w' => w'.cell? ⟨g, 0, none⟩ = some (.int .i64 (2 * x + 1)) ∧ w'.cell? ⟨g, 1, none⟩ = some (.int .i64 (2 * y + 1)) ∧ w'.cell? ⟨g, 2, none⟩ = some (.int .i64 (c1x x k)) ∧ w'.cell? ⟨g, 3, none⟩ = some (.int .i64 (c1y y k)) ∧ w'.cell? ⟨g, 4, none⟩ = some (.int .i64 (c2x x k)) ∧ w'.cell? ⟨g, 5, none⟩ = some (.int .i64 (c2y y k)))
    ((refine ⟨?_, ?_, ?_, ?_, ?_, ?_⟩ <;> (with_reducible (repeat (first | assumption | refine al_old ?_ | refine dr_old ?_)))))
    (first | (go_at_call 36; refine (edgeOf_num _ _ _ _ _).mono ?_; rintro r w2 ⟨rfl, o3, o4, o5, o6, o7, rfl⟩))
  all_goals
    go_wp2
    go_ret
    refine ⟨_, rfl, ?_, ?_, ?_⟩
    · have := HB.out.1
      simp
      try omega
    · simp [Twl, go_sem, ue0, ue1, ue2, ue3, ue4, ue5, ue6, ue7, ue8, ue9, ue10, ue11]
    · with_reducible repeat' (first | exact HB.out.2 | refine bl_alloc ?_ | refine bl_drew ?_)
end Go.Proofs.YtoedcefbmbfnhabDoor

/- Are two edges, two triangles one? -/
namespace Go.Proofs.YtoedcefbmbfnhabDoor
open Go.RowKit

theorem eql27 (a b c d p q r s : Int) (w : World) :
    (binOp .eql 71 (.agg #[.int .i64 a, .int .i64 b, .int .i64 c, .int .i64 d]) (.agg #[.int .i64 p, .int .i64 q, .int .i64 r, .int .i64 s])).run Tryd.prog w = .ok (.bool (sameB a b c d p q r s)) w := by
  by_cases h1 : a = p
  · subst h1
    by_cases h2 : b = q
    · subst h2
      by_cases h3 : c = r
      · subst h3
        by_cases h4 : d = s
        · subst h4
          simp [go_sem, sameB]
        · have e : (d == s) = false := by simpa using h4
          simp [go_sem, sameB, e, h4]
      · have e : (c == r) = false := by simpa using h3
        simp [go_sem, sameB, e, h3]
    · have e : (b == q) = false := by simpa using h2
      simp [go_sem, sameB, e, h2]
  · have e : (a == p) = false := by simpa using h1
    simp [go_sem, sameB, e, h1]

/-- Are two triangles one? -/
def sameT (x y k X Y K : Int) : Bool := decide (x = X ∧ y = Y ∧ k = K)
theorem neq23 (x y k X Y K : Int) (w : World) :
    (binOp .neq 79 (.agg #[.int .i64 x, .int .i64 y, .int .i64 k]) (.agg #[.int .i64 X, .int .i64 Y, .int .i64 K])).run Tryd.prog w = .ok (.bool (!sameT x y k X Y K)) w := by
  by_cases h1 : x = X
  · subst h1
    by_cases h2 : y = Y
    · subst h2
      by_cases h3 : k = K
      · subst h3
        simp [go_sem, sameT]
      · have e : (k == K) = false := by simpa using h3
        simp [go_sem, sameT, e, h3]
    · have e : (y == Y) = false := by simpa using h2
      simp [go_sem, sameT, e, h2]
  · have e : (x == X) = false := by simpa using h1
    simp [go_sem, sameT, e, h1]
theorem eql23 (x y k X Y K : Int) (w : World) :
    (binOp .eql 79 (.agg #[.int .i64 x, .int .i64 y, .int .i64 k]) (.agg #[.int .i64 X, .int .i64 Y, .int .i64 K])).run Tryd.prog w = .ok (.bool (sameT x y k X Y K)) w := by
  by_cases h1 : x = X
  · subst h1
    by_cases h2 : y = Y
    · subst h2
      by_cases h3 : k = K
      · subst h3
        simp [go_sem, sameT]
      · have e : (k == K) = false := by simpa using h3
        simp [go_sem, sameT, e, h3]
    · have e : (y == Y) = false := by simpa using h2
      simp [go_sem, sameT, e, h2]
  · have e : (x == X) = false := by simpa using h1
    simp [go_sem, sameT, e, h1]
end Go.Proofs.YtoedcefbmbfnhabDoor

/- Has a triangle an edge? -/
namespace Go.Proofs.YtoedcefbmbfnhabDoor
open Go.RowKit

set_option maxRecDepth 100000 in
set_option maxHeartbeats 1600000 in
theorem hasEdge_a (x y k p q r s : Int) (w : World) (b1 : -4000000 ≤ x) (b2 : x ≤ 4000000) (b3 : -4000000 ≤ y) (b4 : y ≤ 4000000) (k0 : 0 ≤ k) (k3 : k ≤ 3) (h0 : sameB (ue0 x y k) (ue1 x y k) (ue2 x y k) (ue3 x y k) p q r s = true) :
    Calls Tryd.prog 58 #[.agg #[.int .i64 x, .int .i64 y, .int .i64 k], .agg #[.int .i64 p, .int .i64 q, .int .i64 r, .int .i64 s]] w fun e w' => e = .returned (.bool true) ∧ Below w.heap.size w w' := by
  have C12 : Hid (∀ W : World, Calls Tryd.prog 31 #[.agg #[.int .i64 x, .int .i64 y, .int .i64 k]] W fun e w' => ∃ g, e = .returned (.slice (some ⟨g, 0, none⟩) 3 3) ∧ W.heap.size ≤ g ∧ Twl w' g (ue0 x y k) (ue1 x y k) (ue2 x y k) (ue3 x y k) (ue4 x y k) (ue5 x y k) (ue6 x y k) (ue7 x y k) (ue8 x y k) (ue9 x y k) (ue10 x y k) (ue11 x y k) ∧ Below W.heap.size W w') := fun W => edgesOf_any x y k W b1 b2 b3 b4 k0 k3
  clear b1 b2 b3 b4 k0 k3
  have he := eql27
  go_enter Tryd.func58, Tryd.ntmps58
  go_wp2_with (go_at_call 31; refine (C12.out _).mono ?_; rintro r w1 ⟨g, rfl, hg, hM, hb⟩; have c0 : w1.cell? ⟨w.heap.size + 1, 0, none⟩ = some (.int .i64 p) := cl_kept hb (by simp [go_sem]); have c1 : w1.cell? ⟨w.heap.size + 1, 1, none⟩ = some (.int .i64 q) := cl_kept hb (by simp [go_sem]); have c2 : w1.cell? ⟨w.heap.size + 1, 2, none⟩ = some (.int .i64 r) := cl_kept hb (by simp [go_sem]); have c3 : w1.cell? ⟨w.heap.size + 1, 3, none⟩ = some (.int .i64 s) := cl_kept hb (by simp [go_sem]); have HB : Hid (Below w.heap.size w w1) := bl_via (bl_alloc (bl_alloc (bl_refl _))) hb; clear hb hg; obtain ⟨m0, m1, m2, m3, m4, m5, m6, m7, m8, m9, m10, m11⟩ := hM)
  go_quiet (fail)
  go_wp2
  go_ret
  refine ⟨rfl, ?_⟩
  with_reducible repeat' (first | exact HB.out | refine bl_alloc ?_ | refine bl_drewN ?_ | refine bl_drew ?_)

set_option maxRecDepth 100000 in
set_option maxHeartbeats 1600000 in
theorem hasEdge_b (x y k p q r s : Int) (w : World) (b1 : -4000000 ≤ x) (b2 : x ≤ 4000000) (b3 : -4000000 ≤ y) (b4 : y ≤ 4000000) (k0 : 0 ≤ k) (k3 : k ≤ 3) (h0 : sameB (ue0 x y k) (ue1 x y k) (ue2 x y k) (ue3 x y k) p q r s = false) (h1 : sameB (ue4 x y k) (ue5 x y k) (ue6 x y k) (ue7 x y k) p q r s = true) :
    Calls Tryd.prog 58 #[.agg #[.int .i64 x, .int .i64 y, .int .i64 k], .agg #[.int .i64 p, .int .i64 q, .int .i64 r, .int .i64 s]] w fun e w' => e = .returned (.bool true) ∧ Below w.heap.size w w' := by
  have C12 : Hid (∀ W : World, Calls Tryd.prog 31 #[.agg #[.int .i64 x, .int .i64 y, .int .i64 k]] W fun e w' => ∃ g, e = .returned (.slice (some ⟨g, 0, none⟩) 3 3) ∧ W.heap.size ≤ g ∧ Twl w' g (ue0 x y k) (ue1 x y k) (ue2 x y k) (ue3 x y k) (ue4 x y k) (ue5 x y k) (ue6 x y k) (ue7 x y k) (ue8 x y k) (ue9 x y k) (ue10 x y k) (ue11 x y k) ∧ Below W.heap.size W w') := fun W => edgesOf_any x y k W b1 b2 b3 b4 k0 k3
  clear b1 b2 b3 b4 k0 k3
  have he := eql27
  go_enter Tryd.func58, Tryd.ntmps58
  go_wp2_with (go_at_call 31; refine (C12.out _).mono ?_; rintro r w1 ⟨g, rfl, hg, hM, hb⟩; have c0 : w1.cell? ⟨w.heap.size + 1, 0, none⟩ = some (.int .i64 p) := cl_kept hb (by simp [go_sem]); have c1 : w1.cell? ⟨w.heap.size + 1, 1, none⟩ = some (.int .i64 q) := cl_kept hb (by simp [go_sem]); have c2 : w1.cell? ⟨w.heap.size + 1, 2, none⟩ = some (.int .i64 r) := cl_kept hb (by simp [go_sem]); have c3 : w1.cell? ⟨w.heap.size + 1, 3, none⟩ = some (.int .i64 s) := cl_kept hb (by simp [go_sem]); have HB : Hid (Below w.heap.size w w1) := bl_via (bl_alloc (bl_alloc (bl_refl _))) hb; clear hb hg; obtain ⟨m0, m1, m2, m3, m4, m5, m6, m7, m8, m9, m10, m11⟩ := hM)
  go_quiet (fail)
  go_wp2
  go_ret
  refine ⟨rfl, ?_⟩
  with_reducible repeat' (first | exact HB.out | refine bl_alloc ?_ | refine bl_drewN ?_ | refine bl_drew ?_)

set_option maxRecDepth 100000 in
set_option maxHeartbeats 1600000 in
theorem hasEdge_c (x y k p q r s : Int) (w : World) (b1 : -4000000 ≤ x) (b2 : x ≤ 4000000) (b3 : -4000000 ≤ y) (b4 : y ≤ 4000000) (k0 : 0 ≤ k) (k3 : k ≤ 3) (h0 : sameB (ue0 x y k) (ue1 x y k) (ue2 x y k) (ue3 x y k) p q r s = false) (h1 : sameB (ue4 x y k) (ue5 x y k) (ue6 x y k) (ue7 x y k) p q r s = false) :
    Calls Tryd.prog 58 #[.agg #[.int .i64 x, .int .i64 y, .int .i64 k], .agg #[.int .i64 p, .int .i64 q, .int .i64 r, .int .i64 s]] w fun e w' => e = .returned (.bool (sameB (ue8 x y k) (ue9 x y k) (ue10 x y k) (ue11 x y k) p q r s)) ∧ Below w.heap.size w w' := by
  have C12 : Hid (∀ W : World, Calls Tryd.prog 31 #[.agg #[.int .i64 x, .int .i64 y, .int .i64 k]] W fun e w' => ∃ g, e = .returned (.slice (some ⟨g, 0, none⟩) 3 3) ∧ W.heap.size ≤ g ∧ Twl w' g (ue0 x y k) (ue1 x y k) (ue2 x y k) (ue3 x y k) (ue4 x y k) (ue5 x y k) (ue6 x y k) (ue7 x y k) (ue8 x y k) (ue9 x y k) (ue10 x y k) (ue11 x y k) ∧ Below W.heap.size W w') := fun W => edgesOf_any x y k W b1 b2 b3 b4 k0 k3
  clear b1 b2 b3 b4 k0 k3
  have he := eql27
  go_enter Tryd.func58, Tryd.ntmps58
  go_wp2_with (go_at_call 31; refine (C12.out _).mono ?_; rintro r w1 ⟨g, rfl, hg, hM, hb⟩; have c0 : w1.cell? ⟨w.heap.size + 1, 0, none⟩ = some (.int .i64 p) := cl_kept hb (by simp [go_sem]); have c1 : w1.cell? ⟨w.heap.size + 1, 1, none⟩ = some (.int .i64 q) := cl_kept hb (by simp [go_sem]); have c2 : w1.cell? ⟨w.heap.size + 1, 2, none⟩ = some (.int .i64 r) := cl_kept hb (by simp [go_sem]); have c3 : w1.cell? ⟨w.heap.size + 1, 3, none⟩ = some (.int .i64 s) := cl_kept hb (by simp [go_sem]); have HB : Hid (Below w.heap.size w w1) := bl_via (bl_alloc (bl_alloc (bl_refl _))) hb; clear hb hg; obtain ⟨m0, m1, m2, m3, m4, m5, m6, m7, m8, m9, m10, m11⟩ := hM)
  go_quiet (fail)
  go_wp2
  go_ret
  refine ⟨rfl, ?_⟩
  with_reducible repeat' (first | exact HB.out | refine bl_alloc ?_ | refine bl_drewN ?_ | refine bl_drew ?_)

theorem hasEdge_any (x y k p q r s : Int) (w : World) (b1 : -4000000 ≤ x) (b2 : x ≤ 4000000) (b3 : -4000000 ≤ y) (b4 : y ≤ 4000000) (k0 : 0 ≤ k) (k3 : k ≤ 3) :
    Calls Tryd.prog 58 #[.agg #[.int .i64 x, .int .i64 y, .int .i64 k], .agg #[.int .i64 p, .int .i64 q, .int .i64 r, .int .i64 s]] w fun e w' => e = .returned (.bool (hasB x y k p q r s)) ∧ Below w.heap.size w w' := by
  have E0 : e0 x y k p q r s = sameB (ue0 x y k) (ue1 x y k) (ue2 x y k) (ue3 x y k) p q r s := rfl
  have E1 : e1 x y k p q r s = sameB (ue4 x y k) (ue5 x y k) (ue6 x y k) (ue7 x y k) p q r s := rfl
  have E2 : e2 x y k p q r s = sameB (ue8 x y k) (ue9 x y k) (ue10 x y k) (ue11 x y k) p q r s := rfl
  unfold hasB
  rw [E0, E1, E2]
  cases h0 : sameB (ue0 x y k) (ue1 x y k) (ue2 x y k) (ue3 x y k) p q r s
  · cases h1 : sameB (ue4 x y k) (ue5 x y k) (ue6 x y k) (ue7 x y k) p q r s
    · exact hasEdge_c x y k p q r s w b1 b2 b3 b4 k0 k3 h0 h1
    · exact hasEdge_b x y k p q r s w b1 b2 b3 b4 k0 k3 h0 h1
  · exact hasEdge_a x y k p q r s w b1 b2 b3 b4 k0 k3 h0

end Go.Proofs.YtoedcefbmbfnhabDoor

/- Maps that may be: what the grid's and the reference's look at a map answer. -/
namespace Go.Proofs.YtoedcefbmbfnhabDoor
open Go.RowKit

def mapB (a b c d e f : Int) : Bool := ((unitB a && decide (b = 0) && decide (c = 0) && unitB d) || (decide (a = 0) && unitB b && unitB c && decide (d = 0))) && evenB e && evenB f

set_option maxHeartbeats 3200000 in
theorem mayMap_any (a b c d e f : Int) (w : World) :
    Calls Tryd.prog 115 #[.agg #[.int .i64 a, .int .i64 b, .int .i64 c, .int .i64 d, .int .i64 e, .int .i64 f]] w fun r w' => r = .returned (.bool (mapB a b c d e f)) ∧ ∃ o, w' = w.alloc o := by
  go_enter Tryd.func115, Tryd.ntmps115
  go_wp2_with (first | (go_at_call 128; refine (unit_any _ _).mono ?_; rintro e w' ⟨rfl, rfl⟩) | (go_at_call 127; refine (evenPlace_any _ _).mono ?_; rintro e w' ⟨rfl, rfl⟩))
  all_goals
    go_ret
    exact ⟨ret_bool (by simp_all [mapB]), _, rfl⟩
end Go.Proofs.YtoedcefbmbfnhabDoor

/- Mirrors: what the grid's Mirror and the reference's answer. -/
namespace Go.Proofs.YtoedcefbmbfnhabDoor
open Go.RowKit

theorem line_bd {v c : Int} (h : lineB v c = true) : 0 ≤ v ∧ v ≤ 3 ∧ -1000000 ≤ c ∧ c ≤ 1000000 ∧ c % 2 = 0 := by simpa [lineB] using h

/-- The six numbers of the mirror at a line. -/
def mA (v : Int) : Int := if v = 0 then -1 else if v = 1 then 1 else 0
def mB (v : Int) : Int := if v = 0 ∨ v = 1 then 0 else if v = 2 then -1 else 1
def mD (v : Int) : Int := if v = 0 then 1 else if v = 1 then -1 else 0
def mE (v c : Int) : Int := if v = 0 then 2 * c else if v = 1 then 0 else c
def mF (v c : Int) : Int := if v = 0 then 0 else if v = 1 then 2 * c else if v = 2 then c else -c

theorem ret_agg6 {a b c d e f a' b' c' d' e' f' : Int} (h1 : a = a') (h2 : b = b') (h3 : c = c') (h4 : d = d') (h5 : e = e') (h6 : f = f') :
    Ending.returned (.agg #[.int .i64 a, .int .i64 b, .int .i64 c, .int .i64 d, .int .i64 e, .int .i64 f]) = .returned (.agg #[.int .i64 a', .int .i64 b', .int .i64 c', .int .i64 d', .int .i64 e', .int .i64 f']) := by subst h1 h2 h3 h4 h5 h6; rfl

set_option maxHeartbeats 1600000 in
theorem mirror_any (v c : Int) (w : World) (h : lineB v c = true) :
    Calls Tryd.prog 114 #[.agg #[.int .i64 v, .int .i64 c]] w fun r w' => r = .returned (.agg #[.int .i64 (mA v), .int .i64 (mB v), .int .i64 (mB v), .int .i64 (mD v), .int .i64 (mE v c), .int .i64 (mF v c)]) ∧ ∃ o1 o2, w' = (w.alloc o1).alloc o2 := by
  obtain ⟨h0, h3, b1, b2, _⟩ := line_bd h
  have hv : v = 0 ∨ v = 1 ∨ v = 2 ∨ v = 3 := by omega
  clear h
  rcases hv with rfl | rfl | rfl | rfl
  all_goals
    go_enter Tryd.func114, Tryd.ntmps114
    go_wp2
    refine bodyPost_ret (v := .agg #[_, _, _, _, _, _]) (by simp [results, Tryd.results114, go_sem]; exact ⟨rfl, rfl, rfl, rfl, rfl, rfl⟩) rfl ⟨?_, _, _, rfl⟩
    exact ret_agg6 (by simp [mA]) (by simp [mB]) (by simp [mB]) (by simp [mD]) (by simp [mE]) (by simp [mF])

set_option maxHeartbeats 1600000 in
theorem mirrorOf_any (v c : Int) (w : World) (h : lineB v c = true) :
    Calls Tryd.prog 45 #[.agg #[.int .i64 v, .int .i64 c]] w fun r w' => r = .returned (.agg #[.int .i64 (mA v), .int .i64 (mB v), .int .i64 (mB v), .int .i64 (mD v), .int .i64 (mE v c), .int .i64 (mF v c)]) ∧ ∃ o1 o2, w' = (w.alloc o1).alloc o2 := by
  obtain ⟨h0, h3, b1, b2, _⟩ := line_bd h
  have hv : v = 0 ∨ v = 1 ∨ v = 2 ∨ v = 3 := by omega
  clear h
  rcases hv with rfl | rfl | rfl | rfl
  all_goals
    go_enter Tryd.func45, Tryd.ntmps45
    go_wp2
    refine bodyPost_ret (v := .agg #[_, _, _, _, _, _]) (by simp [results, Tryd.results45, go_sem]; exact ⟨rfl, rfl, rfl, rfl, rfl, rfl⟩) rfl ⟨?_, _, _, rfl⟩
    exact ret_agg6 (by simp [mA]) (by simp [mB]) (by simp [mB]) (by simp [mD]) (by simp [mE]) (by simp [mF])

theorem sized_yes (a b c d e f : Int) (w : World) (h : mapB a b c d e f = true) :
    Calls Tryd.prog 113 #[.agg #[.int .i64 a, .int .i64 b, .int .i64 c, .int .i64 d, .int .i64 e, .int .i64 f]] w fun r w' => r = .returned (.tuple #[.agg #[.int .i64 a, .int .i64 b, .int .i64 c, .int .i64 d, .int .i64 e, .int .i64 f], .int .i64 0]) ∧ ∃ o1 o2 o3, w' = ((w.alloc o1).alloc o2).alloc o3 := by
  go_enter Tryd.func113, Tryd.ntmps113
  go_wp2_with (go_at_call 115; refine (mayMap_any _ _ _ _ _ _ _).mono ?_; rintro e w' ⟨rfl, o1, rfl⟩)
  exact bodyPost_ret (v := .tuple #[.agg #[.int .i64 a, .int .i64 b, .int .i64 c, .int .i64 d, .int .i64 e, .int .i64 f], .int .i64 0]) (by simp [results, Tryd.results113, go_sem]) rfl ⟨rfl, _, _, _, rfl⟩

theorem sized_no (a b c d e f : Int) (w : World) (h : mapB a b c d e f = false) :
    Calls Tryd.prog 113 #[.agg #[.int .i64 a, .int .i64 b, .int .i64 c, .int .i64 d, .int .i64 e, .int .i64 f]] w fun r w' => r = .returned (.tuple #[.agg #[.int .i64 0, .int .i64 0, .int .i64 0, .int .i64 0, .int .i64 0, .int .i64 0], .int .i64 2]) ∧ ∃ o1 o2 o3, w' = ((w.alloc o1).alloc o2).alloc o3 := by
  go_enter Tryd.func113, Tryd.ntmps113
  go_wp2_with (go_at_call 115; refine (mayMap_any _ _ _ _ _ _ _).mono ?_; rintro e w' ⟨rfl, o1, rfl⟩)
  exact bodyPost_ret (v := .tuple #[.agg #[.int .i64 0, .int .i64 0, .int .i64 0, .int .i64 0, .int .i64 0, .int .i64 0], .int .i64 2]) (by simp [results, Tryd.results113, go_sem]) rfl ⟨rfl, _, _, _, rfl⟩

end Go.Proofs.YtoedcefbmbfnhabDoor

/- The generic answer at maps, and the grid's Mirror. -/
namespace Go.Proofs.YtoedcefbmbfnhabDoor
open Go.RowKit

theorem make_func (fn : Fn) (first cap : Array Value) (w : World) : (Instr.makeFunc fn first cap).run Tryd.prog w = .ok (.func fn first cap) w := rfl

theorem answerMap_no (f : Value) (w : World) :
    Calls Tryd.prog 110 #[.bool false, f] w fun r w' => r = .returned (.tuple #[.agg #[.int .i64 0, .int .i64 0, .int .i64 0, .int .i64 0, .int .i64 0, .int .i64 0], .int .i64 3]) ∧ ∃ o1 o2, w' = (w.alloc o1).alloc o2 := by
  go_enter Tryd.func110, Tryd.ntmps110
  go_wp2
  exact bodyPost_ret (v := .tuple #[.agg #[.int .i64 0, .int .i64 0, .int .i64 0, .int .i64 0, .int .i64 0, .int .i64 0], .int .i64 3]) (by simp [results, Tryd.results110, go_sem]) rfl ⟨rfl, _, _, rfl⟩

theorem mirror1_yes (v c : Int) (p : Nat) (w : World) (h : lineB v c = true) (hm : mapB (mA v) (mB v) (mB v) (mD v) (mE v c) (mF v c) = true) (hp0 : w.cell? ⟨p, 0, none⟩ = some (.int .i64 v)) (hp1 : w.cell? ⟨p, 1, none⟩ = some (.int .i64 c)) :
    Calls Tryd.prog 112 #[.pointer (some ⟨p, 0, none⟩)] w fun r w' => r = .returned (.tuple #[.agg #[.int .i64 (mA v), .int .i64 (mB v), .int .i64 (mB v), .int .i64 (mD v), .int .i64 (mE v c), .int .i64 (mF v c)], .int .i64 0]) ∧ ∃ o1 o2 o3 o4 o5 o6, w' = (((((w.alloc o1).alloc o2).alloc o3).alloc o4).alloc o5).alloc o6 := by
  have hz := World.block_lt_of_cell? _ _ hp0
  go_enter Tryd.func112, Tryd.ntmps112
  go_wp2_with (first | (go_at_call 114; refine (mirror_any _ _ _ h).mono ?_; rintro e w' ⟨rfl, o1, o2, rfl⟩) | (go_at_call 113; refine (sized_yes _ _ _ _ _ _ _ hm).mono ?_; rintro e w' ⟨rfl, o3, o4, o5, rfl⟩))
  exact bodyPost_ret (v := .tuple #[.agg #[.int .i64 (mA v), .int .i64 (mB v), .int .i64 (mB v), .int .i64 (mD v), .int .i64 (mE v c), .int .i64 (mF v c)], .int .i64 0]) (by simp [results, Tryd.results112, go_sem, World.cell?_alloc_past]) rfl ⟨rfl, _, _, _, _, _, _, rfl⟩

theorem answerMirror_yes (v c : Int) (p : Nat) (w : World) (h : lineB v c = true) (hm : mapB (mA v) (mB v) (mB v) (mD v) (mE v c) (mF v c) = true) (hp0 : w.cell? ⟨p, 0, none⟩ = some (.int .i64 v)) (hp1 : w.cell? ⟨p, 1, none⟩ = some (.int .i64 c)) :
    Calls Tryd.prog 110 #[.bool true, .func (.func 112) #[] #[.pointer (some ⟨p, 0, none⟩)]] w fun r w' => r = .returned (.tuple #[.agg #[.int .i64 (mA v), .int .i64 (mB v), .int .i64 (mB v), .int .i64 (mD v), .int .i64 (mE v c), .int .i64 (mF v c)], .int .i64 0]) ∧ ∃ o1 o2 o3 o4 o5 o6 o7 o8 o9, w' = ((((((((w.alloc o1).alloc o2).alloc o3).alloc o4).alloc o5).alloc o6).alloc o7).alloc o8).alloc o9 := by
  have hz := World.block_lt_of_cell? _ _ hp0
  go_enter Tryd.func110, Tryd.ntmps110
  go_wp2_with (go_at_call 112; refine (mirror1_yes v c p _ h hm (by simp [go_sem, World.cell?_alloc_past, *]) (by simp [go_sem, World.cell?_alloc_past, *])).mono ?_; rintro e w' ⟨rfl, o1, o2, o3, o4, o5, o6, rfl⟩)
  exact bodyPost_ret (v := .tuple #[.agg #[.int .i64 (mA v), .int .i64 (mB v), .int .i64 (mB v), .int .i64 (mD v), .int .i64 (mE v c), .int .i64 (mF v c)], .int .i64 0]) (by simp [results, Tryd.results110, go_sem, World.cell?_alloc_past]) rfl ⟨rfl, _, _, _, _, _, _, _, _, _, rfl⟩

set_option maxHeartbeats 800000 in
theorem Mirror_yes (v c : Int) (w : World) (h : lineB v c = true) (hm : mapB (mA v) (mB v) (mB v) (mD v) (mE v c) (mF v c) = true) :
    Calls Tryd.prog 88 #[.agg #[.int .i64 v, .int .i64 c]] w fun r w' => r = .returned (.tuple #[.agg #[.int .i64 (mA v), .int .i64 (mB v), .int .i64 (mB v), .int .i64 (mD v), .int .i64 (mE v c), .int .i64 (mF v c)], .int .i64 0]) ∧ Below w.heap.size w w' := by
  have hmf := make_func
  go_enter Tryd.func88, Tryd.ntmps88
  go_wp2_with (first | (go_at_call 111; refine (mayLine_any _ _ _).mono ?_; rintro e w1 ⟨rfl, o0, rfl⟩) | (go_at_call 110; refine (answerMirror_yes v c _ _ h hm (by simp [go_sem, *]) (by simp [go_sem, *])).mono ?_; rintro e w' ⟨rfl, o1, o2, o3, o4, o5, o6, o7, o8, o9, rfl⟩))
  refine bodyPost_ret (v := .tuple #[.agg #[.int .i64 (mA v), .int .i64 (mB v), .int .i64 (mB v), .int .i64 (mD v), .int .i64 (mE v c), .int .i64 (mF v c)], .int .i64 0]) (by simp [results, Tryd.results88, go_sem, World.cell?_alloc_past]) rfl ⟨rfl, ?_⟩
  repeat (first | exact Below.refl _ _ | refine Below.alloc ?_ (by first | omega | (simp; omega) | (simp; done)) _)

theorem mirror1_no (v c : Int) (p : Nat) (w : World) (h : lineB v c = true) (hm : mapB (mA v) (mB v) (mB v) (mD v) (mE v c) (mF v c) = false) (hp0 : w.cell? ⟨p, 0, none⟩ = some (.int .i64 v)) (hp1 : w.cell? ⟨p, 1, none⟩ = some (.int .i64 c)) :
    Calls Tryd.prog 112 #[.pointer (some ⟨p, 0, none⟩)] w fun r w' => r = .returned (.tuple #[.agg #[.int .i64 0, .int .i64 0, .int .i64 0, .int .i64 0, .int .i64 0, .int .i64 0], .int .i64 2]) ∧ ∃ o1 o2 o3 o4 o5 o6, w' = (((((w.alloc o1).alloc o2).alloc o3).alloc o4).alloc o5).alloc o6 := by
  have hz := World.block_lt_of_cell? _ _ hp0
  go_enter Tryd.func112, Tryd.ntmps112
  go_wp2_with (first | (go_at_call 114; refine (mirror_any _ _ _ h).mono ?_; rintro e w' ⟨rfl, o1, o2, rfl⟩) | (go_at_call 113; refine (sized_no _ _ _ _ _ _ _ hm).mono ?_; rintro e w' ⟨rfl, o3, o4, o5, rfl⟩))
  exact bodyPost_ret (v := .tuple #[.agg #[.int .i64 0, .int .i64 0, .int .i64 0, .int .i64 0, .int .i64 0, .int .i64 0], .int .i64 2]) (by simp [results, Tryd.results112, go_sem, World.cell?_alloc_past]) rfl ⟨rfl, _, _, _, _, _, _, rfl⟩

theorem answerMirror_no (v c : Int) (p : Nat) (w : World) (h : lineB v c = true) (hm : mapB (mA v) (mB v) (mB v) (mD v) (mE v c) (mF v c) = false) (hp0 : w.cell? ⟨p, 0, none⟩ = some (.int .i64 v)) (hp1 : w.cell? ⟨p, 1, none⟩ = some (.int .i64 c)) :
    Calls Tryd.prog 110 #[.bool true, .func (.func 112) #[] #[.pointer (some ⟨p, 0, none⟩)]] w fun r w' => r = .returned (.tuple #[.agg #[.int .i64 0, .int .i64 0, .int .i64 0, .int .i64 0, .int .i64 0, .int .i64 0], .int .i64 2]) ∧ ∃ o1 o2 o3 o4 o5 o6 o7 o8 o9, w' = ((((((((w.alloc o1).alloc o2).alloc o3).alloc o4).alloc o5).alloc o6).alloc o7).alloc o8).alloc o9 := by
  have hz := World.block_lt_of_cell? _ _ hp0
  go_enter Tryd.func110, Tryd.ntmps110
  go_wp2_with (go_at_call 112; refine (mirror1_no v c p _ h hm (by simp [go_sem, World.cell?_alloc_past, *]) (by simp [go_sem, World.cell?_alloc_past, *])).mono ?_; rintro e w' ⟨rfl, o1, o2, o3, o4, o5, o6, rfl⟩)
  exact bodyPost_ret (v := .tuple #[.agg #[.int .i64 0, .int .i64 0, .int .i64 0, .int .i64 0, .int .i64 0, .int .i64 0], .int .i64 2]) (by simp [results, Tryd.results110, go_sem, World.cell?_alloc_past]) rfl ⟨rfl, _, _, _, _, _, _, _, _, _, rfl⟩

set_option maxHeartbeats 800000 in
theorem Mirror_no (v c : Int) (w : World) (h : lineB v c = true) (hm : mapB (mA v) (mB v) (mB v) (mD v) (mE v c) (mF v c) = false) :
    Calls Tryd.prog 88 #[.agg #[.int .i64 v, .int .i64 c]] w fun r w' => r = .returned (.tuple #[.agg #[.int .i64 0, .int .i64 0, .int .i64 0, .int .i64 0, .int .i64 0, .int .i64 0], .int .i64 2]) ∧ Below w.heap.size w w' := by
  have hmf := make_func
  go_enter Tryd.func88, Tryd.ntmps88
  go_wp2_with (first | (go_at_call 111; refine (mayLine_any _ _ _).mono ?_; rintro e w1 ⟨rfl, o0, rfl⟩) | (go_at_call 110; refine (answerMirror_no v c _ _ h hm (by simp [go_sem, *]) (by simp [go_sem, *])).mono ?_; rintro e w' ⟨rfl, o1, o2, o3, o4, o5, o6, o7, o8, o9, rfl⟩))
  refine bodyPost_ret (v := .tuple #[.agg #[.int .i64 0, .int .i64 0, .int .i64 0, .int .i64 0, .int .i64 0, .int .i64 0], .int .i64 2]) (by simp [results, Tryd.results88, go_sem, World.cell?_alloc_past]) rfl ⟨rfl, ?_⟩
  repeat (first | exact Below.refl _ _ | refine Below.alloc ?_ (by first | omega | (simp; omega) | (simp; done)) _)

theorem Mirror_out (v c : Int) (w : World) (h : lineB v c = false) :
    Calls Tryd.prog 88 #[.agg #[.int .i64 v, .int .i64 c]] w fun r w' => r = .returned (.tuple #[.agg #[.int .i64 0, .int .i64 0, .int .i64 0, .int .i64 0, .int .i64 0, .int .i64 0], .int .i64 3]) ∧ Below w.heap.size w w' := by
  have hmf := make_func
  go_enter Tryd.func88, Tryd.ntmps88
  go_wp2_with (first | (go_at_call 111; refine (mayLine_any _ _ _).mono ?_; rintro e w1 ⟨rfl, o0, rfl⟩) | (go_at_call 110; refine (answerMap_no _ _).mono ?_; rintro e w' ⟨rfl, o1, o2, rfl⟩))
  refine bodyPost_ret (v := .tuple #[.agg #[.int .i64 0, .int .i64 0, .int .i64 0, .int .i64 0, .int .i64 0, .int .i64 0], .int .i64 3]) (by simp [results, Tryd.results88, go_sem, World.cell?_alloc_past]) rfl ⟨rfl, ?_⟩
  repeat (first | exact Below.refl _ _ | refine Below.alloc ?_ (by first | omega | (simp; omega) | (simp; done)) _)

end Go.Proofs.YtoedcefbmbfnhabDoor

