/- What undoes a map: the reference's BackOf. -/
import Derived.Test.YtfpfgfbkbpgolaaDoorAftw
namespace Go.Proofs.YtfpfgfbkbpgolaaDoor
open Go.RowKit
attribute [local go_sem ↓] Go.wp_at_zero Go.wp_at_succ

theorem set_old {w : World} {p a : Addr} {u v : Value} (h : w.cell? a = some v) (hne : a.block ≠ p.block) : (w.setCell p u).cell? a = some v := by
  have := World.cell?_of_block (w := w) (w' := w.setCell p u) (a := a) (Below.heap_setCell w p u a.block hne)
  exact this.trans h
theorem ef_0 : Ef 0 0 := by unfold Ef; decide

theorem afterOf_to (a b c d e f A B C D E F R1 R2 R3 R4 R5 R6 : Int) (w : World) (hs : Sm a b c d) (hS : Sm A B C D) (he : Ef e f) (hE : Ef E F)
    (h1 : dot A B a c = R1) (h2 : dot A B b d = R2) (h3 : dot C D a c = R3) (h4 : dot C D b d = R4) (h5 : dot A B e f + E = R5) (h6 : dot C D e f + F = R6) :
    Calls Tryd.prog 25 #[.agg #[.int .i64 a, .int .i64 b, .int .i64 c, .int .i64 d, .int .i64 e, .int .i64 f], .agg #[.int .i64 A, .int .i64 B, .int .i64 C, .int .i64 D, .int .i64 E, .int .i64 F]] w fun r w' =>
      r = .returned (.agg #[.int .i64 R1, .int .i64 R2, .int .i64 R3, .int .i64 R4, .int .i64 R5, .int .i64 R6]) ∧ Below w.heap.size w w' := by
  subst h1 h2 h3 h4 h5 h6; exact afterOf_any a b c d e f A B C D E F w hs hS he hE

theorem sm_0 : Sm 1 0 0 1 := by unfold Sm; decide
theorem sm_1 : Sm (-1) 0 0 1 := by unfold Sm; decide
theorem sm_2 : Sm 1 0 0 (-1) := by unfold Sm; decide
theorem sm_3 : Sm (-1) 0 0 (-1) := by unfold Sm; decide
theorem sm_4 : Sm 0 1 1 0 := by unfold Sm; decide
theorem sm_5 : Sm 0 (-1) 1 0 := by unfold Sm; decide
theorem sm_6 : Sm 0 1 (-1) 0 := by unfold Sm; decide
theorem sm_7 : Sm 0 (-1) (-1) 0 := by unfold Sm; decide

end Go.Proofs.YtfpfgfbkbpgolaaDoor
