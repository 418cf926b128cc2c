/- What lies across an edge: the numbers. -/
import Derived.Test.YtehmoacggikfmaaDoorQlan
import Derived.Test.YtehmoacggikfmaaDoorQlao
namespace Go.Proofs.YtehmoacggikfmaaDoor
open Go.RowKit

/-- The twelve numbers of a triangle's edges. -/
def ue0 (x y k : Int) : Int := eA (2 * x + 1) (2 * y + 1) (c1x x k) (c1y y k)
def ue1 (x y k : Int) : Int := eB (2 * x + 1) (2 * y + 1) (c1x x k) (c1y y k)
def ue2 (x y k : Int) : Int := eC (2 * x + 1) (2 * y + 1) (c1x x k) (c1y y k)
def ue3 (x y k : Int) : Int := eD (2 * x + 1) (2 * y + 1) (c1x x k) (c1y y k)
def ue4 (x y k : Int) : Int := eA (c1x x k) (c1y y k) (c2x x k) (c2y y k)
def ue5 (x y k : Int) : Int := eB (c1x x k) (c1y y k) (c2x x k) (c2y y k)
def ue6 (x y k : Int) : Int := eC (c1x x k) (c1y y k) (c2x x k) (c2y y k)
def ue7 (x y k : Int) : Int := eD (c1x x k) (c1y y k) (c2x x k) (c2y y k)
def ue8 (x y k : Int) : Int := eA (c2x x k) (c2y y k) (2 * x + 1) (2 * y + 1)
def ue9 (x y k : Int) : Int := eB (c2x x k) (c2y y k) (2 * x + 1) (2 * y + 1)
def ue10 (x y k : Int) : Int := eC (c2x x k) (c2y y k) (2 * x + 1) (2 * y + 1)
def ue11 (x y k : Int) : Int := eD (c2x x k) (c2y y k) (2 * x + 1) (2 * y + 1)
/-- Are two edges one? -/
def sameB (a b c d p q r s : Int) : Bool := decide (a = p ∧ b = q ∧ c = r ∧ d = s)
/-- The three edges of a triangle, number by number: is one of them this? -/
def e0 (x y k p q r s : Int) : Bool := sameB (ue0 x y k) (ue1 x y k) (ue2 x y k) (ue3 x y k) p q r s
def e1 (x y k p q r s : Int) : Bool := sameB (ue4 x y k) (ue5 x y k) (ue6 x y k) (ue7 x y k) p q r s
def e2 (x y k p q r s : Int) : Bool := sameB (ue8 x y k) (ue9 x y k) (ue10 x y k) (ue11 x y k) p q r s
theorem e0_0 (x y p q r s : Int) : e0 x y 0 p q r s = true ↔ (2 * x = p ∧ 2 * y = q ∧ 2 * x + 1 = r ∧ 2 * y + 1 = s) := by
  simp [e0, sameB, ue0, ue1, ue2, ue3, eA, eB, eC, eD, lessB, c1x, c1y, stX, stY] <;> omega
theorem e1_0 (x y p q r s : Int) : e1 x y 0 p q r s = true ↔ (2 * x = p ∧ 2 * y = q ∧ 2 * x + 2 = r ∧ 2 * y = s) := by
  simp [e1, sameB, ue4, ue5, ue6, ue7, eA, eB, eC, eD, lessB, c1x, c1y, c2x, c2y, stX, stY] <;> omega
theorem e2_0 (x y p q r s : Int) : e2 x y 0 p q r s = true ↔ (2 * x + 1 = p ∧ 2 * y + 1 = q ∧ 2 * x + 2 = r ∧ 2 * y = s) := by
  simp [e2, sameB, ue8, ue9, ue10, ue11, eA, eB, eC, eD, lessB, c2x, c2y, stX, stY] <;> omega
theorem e0_1 (x y p q r s : Int) : e0 x y 1 p q r s = true ↔ (2 * x + 1 = p ∧ 2 * y + 1 = q ∧ 2 * x + 2 = r ∧ 2 * y = s) := by
  simp [e0, sameB, ue0, ue1, ue2, ue3, eA, eB, eC, eD, lessB, c1x, c1y, stX, stY] <;> omega
theorem e1_1 (x y p q r s : Int) : e1 x y 1 p q r s = true ↔ (2 * x + 2 = p ∧ 2 * y = q ∧ 2 * x + 2 = r ∧ 2 * y + 2 = s) := by
  simp [e1, sameB, ue4, ue5, ue6, ue7, eA, eB, eC, eD, lessB, c1x, c1y, c2x, c2y, stX, stY] <;> omega
theorem e2_1 (x y p q r s : Int) : e2 x y 1 p q r s = true ↔ (2 * x + 1 = p ∧ 2 * y + 1 = q ∧ 2 * x + 2 = r ∧ 2 * y + 2 = s) := by
  simp [e2, sameB, ue8, ue9, ue10, ue11, eA, eB, eC, eD, lessB, c2x, c2y, stX, stY] <;> omega
theorem e0_2 (x y p q r s : Int) : e0 x y 2 p q r s = true ↔ (2 * x + 1 = p ∧ 2 * y + 1 = q ∧ 2 * x + 2 = r ∧ 2 * y + 2 = s) := by
  simp [e0, sameB, ue0, ue1, ue2, ue3, eA, eB, eC, eD, lessB, c1x, c1y, stX, stY] <;> omega
theorem e1_2 (x y p q r s : Int) : e1 x y 2 p q r s = true ↔ (2 * x = p ∧ 2 * y + 2 = q ∧ 2 * x + 2 = r ∧ 2 * y + 2 = s) := by
  simp [e1, sameB, ue4, ue5, ue6, ue7, eA, eB, eC, eD, lessB, c1x, c1y, c2x, c2y, stX, stY] <;> omega
theorem e2_2 (x y p q r s : Int) : e2 x y 2 p q r s = true ↔ (2 * x = p ∧ 2 * y + 2 = q ∧ 2 * x + 1 = r ∧ 2 * y + 1 = s) := by
  simp [e2, sameB, ue8, ue9, ue10, ue11, eA, eB, eC, eD, lessB, c2x, c2y, stX, stY] <;> omega
theorem e0_3 (x y p q r s : Int) : e0 x y 3 p q r s = true ↔ (2 * x = p ∧ 2 * y + 2 = q ∧ 2 * x + 1 = r ∧ 2 * y + 1 = s) := by
  simp [e0, sameB, ue0, ue1, ue2, ue3, eA, eB, eC, eD, lessB, c1x, c1y, stX, stY] <;> omega
theorem e1_3 (x y p q r s : Int) : e1 x y 3 p q r s = true ↔ (2 * x = p ∧ 2 * y = q ∧ 2 * x = r ∧ 2 * y + 2 = s) := by
  simp [e1, sameB, ue4, ue5, ue6, ue7, eA, eB, eC, eD, lessB, c1x, c1y, c2x, c2y, stX, stY] <;> omega
theorem e2_3 (x y p q r s : Int) : e2 x y 3 p q r s = true ↔ (2 * x = p ∧ 2 * y = q ∧ 2 * x + 1 = r ∧ 2 * y + 1 = s) := by
  simp [e2, sameB, ue8, ue9, ue10, ue11, eA, eB, eC, eD, lessB, c2x, c2y, stX, stY] <;> omega

/-- Has a triangle this edge? -/
def hasB (x y k p q r s : Int) : Bool := e0 x y k p q r s || e1 x y k p q r s || e2 x y k p q r s
/-- The triangle across an edge, number by number, and the answer's code. -/
def acX (x y k p q r s : Int) : Int := if e0 x y k p q r s = true then x else if e1 x y k p q r s = true then x + outX k else if e2 x y k p q r s = true then x else 0
def acY (x y k p q r s : Int) : Int := if e0 x y k p q r s = true then y else if e1 x y k p q r s = true then y + outY k else if e2 x y k p q r s = true then y else 0
def acK (x y k p q r s : Int) : Int := if e0 x y k p q r s = true then (k + 3) % 4 else if e1 x y k p q r s = true then (k + 2) % 4 else if e2 x y k p q r s = true then (k + 1) % 4 else 0
def acC (x y k p q r s : Int) : Int := if e0 x y k p q r s = true then 0 else if e1 x y k p q r s = true then 0 else if e2 x y k p q r s = true then 0 else 5

theorem hasB_or (x y k p q r s : Int) : hasB x y k p q r s = true ↔ (e0 x y k p q r s = true ∨ e1 x y k p q r s = true ∨ e2 x y k p q r s = true) := by
  simp [hasB, or_assoc]

/-- Another triangle nearby that has the edge. -/
def Oth (x y k p q r s dx dy l : Int) : Prop := hasB (x + dx) (y + dy) l p q r s = true ∧ ¬ (x + dx = x ∧ y + dy = y ∧ l = k)

set_option maxHeartbeats 1600000 in
theorem across_is (x y k p q r s dx dy l : Int) (k0 : 0 ≤ k) (k3 : k ≤ 3) (l0 : 0 ≤ l) (l3 : l ≤ 3) (h : hasB x y k p q r s = true) (ho : Oth x y k p q r s dx dy l) :
    x + dx = acX x y k p q r s ∧ y + dy = acY x y k p q r s ∧ l = acK x y k p q r s := by
  have hk : k = 0 ∨ k = 1 ∨ k = 2 ∨ k = 3 := by omega
  have hl : l = 0 ∨ l = 1 ∨ l = 2 ∨ l = 3 := by omega
  obtain ⟨h2, h3⟩ := ho
  rw [hasB_or] at h h2
  rcases hk with rfl | rfl | rfl | rfl <;> simp only [acX, acY, acK, outX, outY, e0_0, e0_1, e0_2, e0_3, e1_0, e1_1, e1_2, e1_3, e2_0, e2_1, e2_2, e2_3] at h ⊢ <;> rcases h with ⟨rfl, rfl, rfl, rfl⟩ | ⟨rfl, rfl, rfl, rfl⟩ | ⟨rfl, rfl, rfl, rfl⟩ <;> simp <;> rcases hl with rfl | rfl | rfl | rfl <;> simp only [e0_0, e0_1, e0_2, e0_3, e1_0, e1_1, e1_2, e1_3, e2_0, e2_1, e2_2, e2_3] at h2 <;> omega

theorem across_has (x y k p q r s : Int) (k0 : 0 ≤ k) (k3 : k ≤ 3) (h : hasB x y k p q r s = true) :
    ∃ dx dy l : Int, (-1 ≤ dx ∧ dx ≤ 1) ∧ (-1 ≤ dy ∧ dy ≤ 1) ∧ (0 ≤ l ∧ l ≤ 3) ∧ Oth x y k p q r s dx dy l := by
  have hk : k = 0 ∨ k = 1 ∨ k = 2 ∨ k = 3 := by omega
  rw [hasB_or] at h
  unfold Oth
  simp only [hasB_or]
  rcases hk with rfl | rfl | rfl | rfl <;> simp only [e0_0, e0_1, e0_2, e0_3, e1_0, e1_1, e1_2, e1_3, e2_0, e2_1, e2_2, e2_3] at h <;> rcases h with h | h | h
  · exact ⟨0, 0, 3, by omega, by omega, by omega, by simp only [e0_3, e1_3, e2_3]; omega, by omega⟩
  · exact ⟨0, -1, 2, by omega, by omega, by omega, by simp only [e0_2, e1_2, e2_2]; omega, by omega⟩
  · exact ⟨0, 0, 1, by omega, by omega, by omega, by simp only [e0_1, e1_1, e2_1]; omega, by omega⟩
  · exact ⟨0, 0, 0, by omega, by omega, by omega, by simp only [e0_0, e1_0, e2_0]; omega, by omega⟩
  · exact ⟨1, 0, 3, by omega, by omega, by omega, by simp only [e0_3, e1_3, e2_3]; omega, by omega⟩
  · exact ⟨0, 0, 2, by omega, by omega, by omega, by simp only [e0_2, e1_2, e2_2]; omega, by omega⟩
  · exact ⟨0, 0, 1, by omega, by omega, by omega, by simp only [e0_1, e1_1, e2_1]; omega, by omega⟩
  · exact ⟨0, 1, 0, by omega, by omega, by omega, by simp only [e0_0, e1_0, e2_0]; omega, by omega⟩
  · exact ⟨0, 0, 3, by omega, by omega, by omega, by simp only [e0_3, e1_3, e2_3]; omega, by omega⟩
  · exact ⟨0, 0, 2, by omega, by omega, by omega, by simp only [e0_2, e1_2, e2_2]; omega, by omega⟩
  · exact ⟨-1, 0, 1, by omega, by omega, by omega, by simp only [e0_1, e1_1, e2_1]; omega, by omega⟩
  · exact ⟨0, 0, 0, by omega, by omega, by omega, by simp only [e0_0, e1_0, e2_0]; omega, by omega⟩

end Go.Proofs.YtehmoacggikfmaaDoor
