/- Halves: the mathematics. -/
import Derived.Test.YtohnppjbmpaomaaMidm
namespace Go.Proofs.Ytohnppjbmpaomaa
open Go.RowKit

theorem g3_scale (t a b c : Int) : g3 (t * a) (t * b) (t * c) = t.natAbs * g3 a b c := by
  unfold g3
  rw [Int.natAbs_mul, Int.natAbs_mul, Int.natAbs_mul, Nat.gcd_mul_left, Nat.gcd_mul_left]
theorem dv_scale {t a b c : Int} (ht : t ≠ 0) (h : ¬ (a = 0 ∧ b = 0)) : dv (t * a) (t * b) (t * c) = t * dv a b c := by
  have hs : ∀ x : Int, 0 < t → ((t * x < 0 ↔ x < 0) ∧ (t * x = 0 ↔ x = 0)) := fun x p => by
    refine ⟨⟨fun h => ?_, fun h => Int.mul_neg_of_pos_of_neg p h⟩, ⟨fun h => ?_, fun h => by rw [h, Int.mul_zero]⟩⟩
    · rcases Int.lt_or_le x 0 with e | e
      · exact e
      · have := Int.mul_nonneg (Int.le_of_lt p) e
        omega
    · rcases Int.mul_eq_zero.1 h with e | e
      · omega
      · exact e
  have hp : ∀ x : Int, t < 0 → ((t * x < 0 ↔ 0 < x) ∧ (t * x = 0 ↔ x = 0)) := fun x p => by
    refine ⟨⟨fun h => ?_, fun h => Int.mul_neg_of_neg_of_pos p h⟩, ⟨fun h => ?_, fun h => by rw [h, Int.mul_zero]⟩⟩
    · rcases Int.lt_or_le 0 x with e | e
      · exact e
      · have := Int.mul_nonneg_of_nonpos_of_nonpos (Int.le_of_lt p) e
        omega
    · rcases Int.mul_eq_zero.1 h with e | e
      · omega
      · exact e
  rcases Int.lt_or_gt_of_ne ht with p | p
  · have ha := hp a p
    have hb := hp b p
    have ea : ((t.natAbs : Nat) : Int) = -t := by omega
    by_cases k : a < 0 ∨ (a = 0 ∧ b < 0)
    · rw [dv_neg k, dv_pos (by omega), g3_scale, Int.natCast_mul, ea, Int.neg_mul, Int.mul_neg]
    · rw [dv_pos k, dv_neg (by omega), g3_scale, Int.natCast_mul, ea, Int.neg_mul, Int.neg_neg]
  · have ha := hs a p
    have hb := hs b p
    have ea : ((t.natAbs : Nat) : Int) = t := by omega
    by_cases k : a < 0 ∨ (a = 0 ∧ b < 0)
    · rw [dv_neg k, dv_neg (by omega), g3_scale, Int.natCast_mul, ea, Int.mul_neg]
    · rw [dv_pos k, dv_pos (by omega), g3_scale, Int.natCast_mul, ea]
theorem quo_scale {t x d : Int} (ht : t ≠ 0) (hd : d ≠ 0) (h : d ∣ x) : (t * x).tdiv (t * d) = x.tdiv d := by
  obtain ⟨q, rfl⟩ := h
  rw [show t * (d * q) = (t * d) * q by grind, Int.mul_tdiv_cancel_left _ (by intro e; rcases Int.mul_eq_zero.1 e with h | h <;> omega), Int.mul_tdiv_cancel_left _ hd]
/-- A straight in form does not hang on how its numbers are multiplied. -/
theorem frm_scale {t a b c : Int} (ht : t ≠ 0) (h : ¬ (a = 0 ∧ b = 0)) : frm (t * a) (t * b) (t * c) = frm a b c := by
  obtain ⟨h1, h2, h3⟩ := dv_dvd a b c
  have hd := dv_ne (c := c) h
  unfold frm
  rw [dv_scale ht h, quo_scale ht hd h1, quo_scale ht hd h2, quo_scale ht hd h3]
theorem frm_like {t s a b c A B C : Int} (ht : t ≠ 0) (hs : s ≠ 0) (h : ¬ (a = 0 ∧ b = 0)) (h' : ¬ (A = 0 ∧ B = 0)) (e1 : t * a = s * A) (e2 : t * b = s * B) (e3 : t * c = s * C) : frm a b c = frm A B C := by
  rw [← frm_scale ht h, e1, e2, e3, frm_scale hs h']
/-- A number whose square, times a square, is a square. -/
theorem root_part {u n r : Nat} (hu : 0 < u) (h : u * u * n = r * r) : ∃ q, r = u * q ∧ n = q * q := by
  have h1 : u ^ 2 ∣ r ^ 2 := ⟨n, by rw [Nat.pow_two, Nat.pow_two]; exact h.symm⟩
  have h2 : u ∣ r := (Nat.pow_dvd_pow_iff (by omega)).1 h1
  obtain ⟨q, rfl⟩ := h2
  refine ⟨q, rfl, ?_⟩
  have h3 : u * u * n = u * u * (q * q) := by rw [h]; grind
  exact Nat.eq_of_mul_eq_mul_left (Nat.mul_pos hu hu) h3
end Go.Proofs.Ytohnppjbmpaomaa
