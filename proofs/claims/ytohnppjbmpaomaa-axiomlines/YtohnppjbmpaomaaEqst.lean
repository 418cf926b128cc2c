/- Are two straights, two points one? -/
import Derived.Test.YtohnppjbmpaomaaFarr
namespace Go.Proofs.Ytohnppjbmpaomaa
open Go.RowKit

def same3 (x y z X Y Z : Int) : Bool := decide (x = X ∧ y = Y ∧ z = Z)
def same2 (x y X Y : Int) : Bool := decide (x = X ∧ y = Y)
theorem eql25 (x y z X Y Z : Int) (w : World) :
    (binOp .eql 25 (.agg #[.int .i64 x, .int .i64 y, .int .i64 z]) (.agg #[.int .i64 X, .int .i64 Y, .int .i64 Z])).run Try.prog w = .ok (.bool (same3 x y z X Y Z)) w := by
  by_cases h0 : x = X
  · subst h0
    by_cases h1 : y = Y
    · subst h1
      by_cases h2 : z = Z
      · subst h2
        simp [go_sem, same3]
      · have e : (z == Z) = false := by simpa using h2
        simp [go_sem, same3, e, h2]
    · have e : (y == Y) = false := by simpa using h1
      simp [go_sem, same3, e, h1]
  · have e : (x == X) = false := by simpa using h0
    simp [go_sem, same3, e, h0]
theorem neq25 (x y z X Y Z : Int) (w : World) :
    (binOp .neq 25 (.agg #[.int .i64 x, .int .i64 y, .int .i64 z]) (.agg #[.int .i64 X, .int .i64 Y, .int .i64 Z])).run Try.prog w = .ok (.bool (!same3 x y z X Y Z)) w := by
  by_cases h0 : x = X
  · subst h0
    by_cases h1 : y = Y
    · subst h1
      by_cases h2 : z = Z
      · subst h2
        simp [go_sem, same3]
      · have e : (z == Z) = false := by simpa using h2
        simp [go_sem, same3, e, h2]
    · have e : (y == Y) = false := by simpa using h1
      simp [go_sem, same3, e, h1]
  · have e : (x == X) = false := by simpa using h0
    simp [go_sem, same3, e, h0]
theorem eql23 (x y X Y : Int) (w : World) :
    (binOp .eql 23 (.agg #[.int .i64 x, .int .i64 y]) (.agg #[.int .i64 X, .int .i64 Y])).run Try.prog w = .ok (.bool (same2 x y X Y)) w := by
  by_cases h0 : x = X
  · subst h0
    by_cases h1 : y = Y
    · subst h1
      simp [go_sem, same2]
    · have e : (y == Y) = false := by simpa using h1
      simp [go_sem, same2, e, h1]
  · have e : (x == X) = false := by simpa using h0
    simp [go_sem, same2, e, h0]
theorem same3_self (x y z : Int) : same3 x y z x y z = true := by simp [same3]
theorem same2_self (x y : Int) : same2 x y x y = true := by simp [same2]
end Go.Proofs.Ytohnppjbmpaomaa
