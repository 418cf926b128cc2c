/- A part of the proof of a law on sheets. -/
import Derived.Test.YtmjneoaciopioaaDoorQmag
namespace Go.Proofs.YtmjneoaciopioaaDoor
open Go.RowKit
attribute [local go_sem ↓] Go.wp_at_zero Go.wp_at_succ

attribute [local go_sem ↓] Go.wp_at_zero Go.wp_at_succ

theorem half (X : Int) : (2 * X).tdiv 2 = X := by rw [Int.mul_comm]; exact Int.mul_tdiv_cancel _ (by decide)

theorem fz_kept {w wx : World} {a : Addr} {v : Value} {b : Bool} (hb : Below w.heap.size w wx) (hc : w.cell? a = some v) (h : w.frozen? a = b) : wx.frozen? a = b := (hb.frozen (World.block_lt_of_cell? _ _ hc)).trans h

theorem st_old {w : World} {p a : Addr} {u v : Value} (h : w.cell? a = some v) (hne : a.block ≠ p.block) : (w.setCell p u).cell? a = some v := by
  have := World.cell?_of_block (w := w) (w' := w.setCell p u) (a := a) (Below.heap_setCell w p u a.block hne)
  exact this.trans h
theorem st_old3 {w : World} {p q r a : Addr} {u1 u2 u3 v : Value} (h : w.cell? a = some v) (hne : a.block ≠ p.block ∧ a.block ≠ q.block ∧ a.block ≠ r.block) : (((w.setCell p u1).setCell q u2).setCell r u3).cell? a = some v :=
  st_old (st_old (st_old h hne.1) hne.2.1) hne.2.2
theorem Steps.set3 {w : World} {p q r : Addr} {u1 u2 u3 : Value} (h : Steps w) (hne : 0 ≠ p.block ∧ 0 ≠ q.block ∧ 0 ≠ r.block) : Steps (((w.setCell p u1).setCell q u2).setCell r u3) := by
  obtain ⟨s0, s1, s2, s3, s4, s5, s6, s7⟩ := h
  exact ⟨st_old3 s0 hne, st_old3 s1 hne, st_old3 s2 hne, st_old3 s3 hne, st_old3 s4 hne, st_old3 s5 hne, st_old3 s6 hne, st_old3 s7 hne⟩
theorem dr_fz {w : World} {a : Addr} {b : Bool} (h : w.frozen? a = b) : w.drew.frozen? a = b := h
theorem wrap_of {n : Int} (h1 : -9000000000000000000 ≤ n) (h2 : n ≤ 9000000000000000000) : IntKind.i64.wrap n = n := by rw [IntKind.wrap_i64]; omega

theorem turn_to (a b c d e f x y p q : Int) (w : World) (hs : Sm a b c d) (h1 : -4000000 ≤ x) (h2 : x ≤ 4000000) (h3 : -4000000 ≤ y) (h4 : y ≤ 4000000) (hp : dot a b x y = p) (hq : dot c d x y = q) :
    Calls Tryd.prog 131 #[.agg #[.int .i64 a, .int .i64 b, .int .i64 c, .int .i64 d, .int .i64 e, .int .i64 f], .agg #[.int .i64 x, .int .i64 y]] w fun r w' => r = .returned (.agg #[.int .i64 p, .int .i64 q]) ∧ Below w.heap.size w w' := by
  subst hp hq
  refine (turn_any a b c d e f x y w hs h1 h2 h3 h4).mono ?_
  rintro r w' ⟨rfl, o1, o2, o3, rfl⟩
  exact ⟨rfl, bl_alloc (bl_alloc (bl_alloc (bl_refl _)))⟩

end Go.Proofs.YtmjneoaciopioaaDoor
