/- The reference's KindsNumber and kindsOf. -/
import Derived.Test.YtioajagblphbnaaRefa
namespace Go.Proofs.Ytioajagblphbnaa
open Go.RowKit

theorem numK_bd {ks : List Int} {n : Nat} (h : ∀ i, i < n → gt ks i = 1 ∨ gt ks i = 2) : ∀ i, i ≤ n → 0 ≤ numK ks i ∧ numK ks i < 2 ^ i
  | 0, _ => by simp [numK]
  | i + 1, hi => by
    have ih := numK_bd h i (by omega)
    have := h i (by omega)
    unfold numK
    rw [Int.pow_succ]
    omega
theorem kN_bd (n : Nat) (G : List Int) : ∀ i, 0 ≤ kN n G i ∧ kN n G i < 2 ^ i
  | 0 => by simp [kN]
  | i + 1 => by
    have ih := kN_bd n G i
    unfold kN
    rw [Int.pow_succ]
    split <;> omega
theorem pow8 {i : Nat} (h : i ≤ 8) : (2 : Int) ^ i ≤ 256 := by
  have : i = 0 ∨ i = 1 ∨ i = 2 ∨ i = 3 ∨ i = 4 ∨ i = 5 ∨ i = 6 ∨ i = 7 ∨ i = 8 := by omega
  rcases this with rfl | rfl | rfl | rfl | rfl | rfl | rfl | rfl | rfl <;> decide
end Go.Proofs.Ytioajagblphbnaa
