/- A part of the proof of sheetTells_holds. -/
import Derived.Test.YtehmoacggikfmaaDoorQlab
import Derived.Test.YtehmoacggikfmaaDoorQlac
import Derived.Deep.DeepCutAuto
namespace Go.Proofs.YtehmoacggikfmaaDoor
open Go.RowKit
attribute [local go_sem ↓] Go.wp_at_zero Go.wp_at_succ

/-- A row of a map at a point. -/
def dot (p q x y : Int) : Int := p * x + q * y

theorem mul_bd {u x M : Int} (h1 : -1 ≤ u) (h2 : u ≤ 1) (h3 : -M ≤ x) (h4 : x ≤ M) : -M ≤ u * x ∧ u * x ≤ M := by
  have hu : u = -1 ∨ u = 0 ∨ u = 1 := by omega
  rcases hu with rfl | rfl | rfl <;> omega

theorem dot_bd {p q x y M : Int} (h1 : -1 ≤ p) (h2 : p ≤ 1) (h3 : -1 ≤ q) (h4 : q ≤ 1) (h5 : -M ≤ x) (h6 : x ≤ M) (h7 : -M ≤ y) (h8 : y ≤ M) : -(2 * M) ≤ dot p q x y ∧ dot p q x y ≤ 2 * M := by
  have a := mul_bd h1 h2 h5 h6
  have b := mul_bd h3 h4 h7 h8
  unfold dot; omega

/-- The four numbers that turn are small. -/
def Sm (a b c d : Int) : Prop := (-1 ≤ a ∧ a ≤ 1) ∧ (-1 ≤ b ∧ b ≤ 1) ∧ (-1 ≤ c ∧ c ≤ 1) ∧ (-1 ≤ d ∧ d ≤ 1)

attribute [local go_sem ↓] Go.wp_at_zero Go.wp_at_succ

def outX (k : Int) : Int := if k = 1 then 1 else if k = 3 then -1 else 0
def outY (k : Int) : Int := if k = 0 then -1 else if k = 2 then 1 else 0

theorem outX_bd (k : Int) : -1 ≤ outX k ∧ outX k ≤ 1 := by unfold outX; split <;> (try split) <;> omega
theorem outY_bd (k : Int) : -1 ≤ outY k ∧ outY k ≤ 1 := by unfold outY; split <;> (try split) <;> omega

attribute [local go_sem ↓] Go.wp_at_zero Go.wp_at_succ

def Ef (e f : Int) : Prop := (-1000000 ≤ e ∧ e ≤ 1000000) ∧ (-1000000 ≤ f ∧ f ≤ 1000000)

theorem dot_one (A B a b c d e f x y E : Int) (hx : x = 1) (hy : y = 0) : dot A B (dot a b x y + e) (dot c d x y + f) + E - (dot A B (dot a b 0 0 + e) (dot c d 0 0 + f) + E) = dot A B a c := by
  subst hx hy; simp [dot, Int.mul_add]; omega
theorem dot_two (A B a b c d e f x y E : Int) (hx : x = 0) (hy : y = 1) : dot A B (dot a b x y + e) (dot c d x y + f) + E - (dot A B (dot a b 0 0 + e) (dot c d 0 0 + f) + E) = dot A B b d := by
  subst hx hy; simp [dot, Int.mul_add]; omega
theorem dot_nought (A B a b c d e f E : Int) : dot A B (dot a b 0 0 + e) (dot c d 0 0 + f) + E = dot A B e f + E := by simp [dot]

theorem ret6 {a b c d e f a' b' c' d' e' f' : Int} (h1 : a = a') (h2 : b = b') (h3 : c = c') (h4 : d = d') (h5 : e = e') (h6 : f = f') :
    Ending.returned (.agg #[.int .i64 a, .int .i64 b, .int .i64 c, .int .i64 d, .int .i64 e, .int .i64 f]) = .returned (.agg #[.int .i64 a', .int .i64 b', .int .i64 c', .int .i64 d', .int .i64 e', .int .i64 f']) := by subst h1 h2 h3 h4 h5 h6; rfl

attribute [local go_sem ↓] Go.wp_at_zero Go.wp_at_succ

attribute [local go_sem ↓] Go.wp_at_zero Go.wp_at_succ

theorem half (X : Int) : (2 * X).tdiv 2 = X := by rw [Int.mul_comm]; exact Int.mul_tdiv_cancel _ (by decide)

theorem fz_kept {w wx : World} {a : Addr} {v : Value} {b : Bool} (hb : Below w.heap.size w wx) (hc : w.cell? a = some v) (h : w.frozen? a = b) : wx.frozen? a = b := (hb.frozen (World.block_lt_of_cell? _ _ hc)).trans h

theorem st_old {w : World} {p a : Addr} {u v : Value} (h : w.cell? a = some v) (hne : a.block ≠ p.block) : (w.setCell p u).cell? a = some v := by
  have := World.cell?_of_block (w := w) (w' := w.setCell p u) (a := a) (Below.heap_setCell w p u a.block hne)
  exact this.trans h
theorem st_old3 {w : World} {p q r a : Addr} {u1 u2 u3 v : Value} (h : w.cell? a = some v) (hne : a.block ≠ p.block ∧ a.block ≠ q.block ∧ a.block ≠ r.block) : (((w.setCell p u1).setCell q u2).setCell r u3).cell? a = some v :=
  st_old (st_old (st_old h hne.1) hne.2.1) hne.2.2
theorem Steps.set3 {w : World} {p q r : Addr} {u1 u2 u3 : Value} (h : Steps w) (hne : 2 ≠ p.block ∧ 2 ≠ q.block ∧ 2 ≠ r.block) : Steps (((w.setCell p u1).setCell q u2).setCell r u3) := by
  obtain ⟨s0, s1, s2, s3, s4, s5, s6, s7⟩ := h
  exact ⟨st_old3 s0 hne, st_old3 s1 hne, st_old3 s2 hne, st_old3 s3 hne, st_old3 s4 hne, st_old3 s5 hne, st_old3 s6 hne, st_old3 s7 hne⟩
theorem dr_fz {w : World} {a : Addr} {b : Bool} (h : w.frozen? a = b) : w.drew.frozen? a = b := h
theorem wrap_of {n : Int} (h1 : -9000000000000000000 ≤ n) (h2 : n ≤ 9000000000000000000) : IntKind.i64.wrap n = n := by rw [IntKind.wrap_i64]; omega

end Go.Proofs.YtehmoacggikfmaaDoor
