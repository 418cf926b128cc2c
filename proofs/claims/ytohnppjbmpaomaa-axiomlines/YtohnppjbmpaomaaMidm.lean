/- What folds in form say: the mathematics. -/
import Derived.Test.YtohnppjbmpaomaaThro
import Derived.Test.YtohnppjbmpaomaaInre
namespace Go.Proofs.Ytohnppjbmpaomaa
open Go.RowKit

theorem dv_dvd (a b c : Int) : dv a b c ∣ a ∧ dv a b c ∣ b ∧ dv a b c ∣ c := by
  obtain ⟨h1, h2, h3⟩ := g3_dvd a b c
  unfold dv
  split
  · exact ⟨Int.neg_dvd.2 h1, Int.neg_dvd.2 h2, Int.neg_dvd.2 h3⟩
  · exact ⟨h1, h2, h3⟩
theorem dv_ne {a b c : Int} (h : ¬ (a = 0 ∧ b = 0)) : dv a b c ≠ 0 := by
  have := g3_pos (c := c) h
  unfold dv
  split <;> omega
/-- A straight's numbers, and what they are divided by. -/
theorem form_parts {a b c : Int} (h : ¬ (a = 0 ∧ b = 0)) : ∃ d A B C : Int, d ≠ 0 ∧ a = d * A ∧ b = d * B ∧ c = d * C ∧ frm a b c = st A B C ∧ A.natAbs ≤ a.natAbs ∧ B.natAbs ≤ b.natAbs ∧ C.natAbs ≤ c.natAbs := by
  obtain ⟨h1, h2, h3⟩ := dv_dvd a b c
  refine ⟨dv a b c, a.tdiv (dv a b c), b.tdiv (dv a b c), c.tdiv (dv a b c), dv_ne h, (Int.mul_tdiv_cancel' h1).symm, (Int.mul_tdiv_cancel' h2).symm, (Int.mul_tdiv_cancel' h3).symm, rfl, ?_, ?_, ?_⟩
  all_goals
    rw [Int.natAbs_tdiv]
    exact Nat.div_le_self _ _
theorem g3_neg (a b c : Int) : g3 (-a) (-b) (-c) = g3 a b c := by simp [g3]
theorem dv_turn {a b c : Int} (h : ¬ (a = 0 ∧ b = 0)) : dv (-a) (-b) (-c) = -dv a b c := by
  by_cases k : a < 0 ∨ (a = 0 ∧ b < 0)
  · rw [dv_neg k, dv_pos (by omega), g3_neg]
    omega
  · rw [dv_pos k, dv_neg (by omega), g3_neg]
theorem frm_turn {a b c : Int} (h : ¬ (a = 0 ∧ b = 0)) : frm (-a) (-b) (-c) = frm a b c := by
  unfold frm
  rw [dv_turn h, Int.neg_tdiv_neg, Int.neg_tdiv_neg, Int.neg_tdiv_neg]
theorem bd_abs {m x y : Int} (h : bd m y) (k : x.natAbs ≤ y.natAbs) : bd m x := by unfold bd at *; omega
theorem ont_turn {x y X Y : Int} (h : same2 x y X Y = false) : ont X Y x y = ont x y X Y := by
  unfold ont
  rw [← frm_turn (a := 2 * (X - x)) (b := 2 * (Y - y)) (by have := same_no h; omega)]
  congr 1
  · omega
  · omega
  · omega
/-- All that AxiomMiddle asks. -/
theorem middle_all {x y X Y : Int} (hx : bd 100 x) (hy : bd 100 y) (hX : bd 100 X) (hY : bd 100 Y) (h : same2 x y X Y = false) :
    ∃ A B C D E F : Int, ont x y X Y = st A B C ∧ ont X Y x y = st A B C ∧ thr x y X Y = st D E F ∧ (bd 1000000 A ∧ bd 1000000 B ∧ bd 1000000 C) ∧ (bd 1000000 D ∧ bd 1000000 E ∧ bd 1000000 F) ∧
      A * (x + X) + B * (y + Y) = C * 2 ∧ D * x + E * y = F * 1 ∧ D * X + E * Y = F * 1 ∧ A * D + B * E = 0 := by
  obtain ⟨d, A, B, C, hd, ha, hb, hc, e1, n1, n2, n3⟩ := form_parts (a := 2 * (X - x)) (b := 2 * (Y - y)) (c := X * X + Y * Y - (x * x + y * y)) (by have := same_no h; omega)
  obtain ⟨d', D, E, F, hd', ha', hb', hc', e2, n4, n5, n6⟩ := form_parts (a := Y - y) (b := -(X - x)) (c := (Y - y) * x - (X - x) * y) (by have := same_no h; omega)
  have b3 := bd_sub (bd_add (bd_mul hX hX) (bd_mul hY hY)) (bd_add (bd_mul hx hx) (bd_mul hy hy))
  have b4 := bd_sub (bd_mul (bd_sub hY hy) hx) (bd_mul (bd_sub hX hx) hy)
  have b1 : bd 1000000 (2 * (X - x)) := by unfold bd at *; omega
  have b2 : bd 1000000 (2 * (Y - y)) := by unfold bd at *; omega
  have b5 : bd 1000000 (Y - y) := by unfold bd at *; omega
  have b6 : bd 1000000 (-(X - x)) := by unfold bd at *; omega
  refine ⟨A, B, C, D, E, F, e1, (ont_turn h).trans e1, e2, ⟨bd_abs b1 n1, bd_abs b2 n2, bd_abs (bd_up b3 (by omega)) n3⟩, ⟨bd_abs b5 n4, bd_abs b6 n5, bd_abs (bd_up b4 (by omega)) n6⟩, ?_, ?_, ?_, ?_⟩
  · refine Int.eq_of_mul_eq_mul_left hd ?_
    grind
  · refine Int.eq_of_mul_eq_mul_left hd' ?_
    grind
  · refine Int.eq_of_mul_eq_mul_left hd' ?_
    grind
  · refine Int.eq_of_mul_eq_mul_left hd ?_
    refine Int.eq_of_mul_eq_mul_left hd' ?_
    grind
end Go.Proofs.Ytohnppjbmpaomaa
