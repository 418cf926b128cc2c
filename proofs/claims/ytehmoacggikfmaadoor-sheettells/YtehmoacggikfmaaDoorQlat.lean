/- Are two edges, two triangles one? -/
import Derived.Test.YtehmoacggikfmaaDoorQlap
namespace Go.Proofs.YtehmoacggikfmaaDoor
open Go.RowKit

theorem eql27 (a b c d p q r s : Int) (w : World) :
    (binOp .eql 46 (.agg #[.int .i64 a, .int .i64 b, .int .i64 c, .int .i64 d]) (.agg #[.int .i64 p, .int .i64 q, .int .i64 r, .int .i64 s])).run Tryd.prog w = .ok (.bool (sameB a b c d p q r s)) w := by
  by_cases h1 : a = p
  · subst h1
    by_cases h2 : b = q
    · subst h2
      by_cases h3 : c = r
      · subst h3
        by_cases h4 : d = s
        · subst h4
          simp [go_sem, sameB]
        · have e : (d == s) = false := by simpa using h4
          simp [go_sem, sameB, e, h4]
      · have e : (c == r) = false := by simpa using h3
        simp [go_sem, sameB, e, h3]
    · have e : (b == q) = false := by simpa using h2
      simp [go_sem, sameB, e, h2]
  · have e : (a == p) = false := by simpa using h1
    simp [go_sem, sameB, e, h1]

/-- Are two triangles one? -/
def sameT (x y k X Y K : Int) : Bool := decide (x = X ∧ y = Y ∧ k = K)
theorem neq23 (x y k X Y K : Int) (w : World) :
    (binOp .neq 52 (.agg #[.int .i64 x, .int .i64 y, .int .i64 k]) (.agg #[.int .i64 X, .int .i64 Y, .int .i64 K])).run Tryd.prog w = .ok (.bool (!sameT x y k X Y K)) w := by
  by_cases h1 : x = X
  · subst h1
    by_cases h2 : y = Y
    · subst h2
      by_cases h3 : k = K
      · subst h3
        simp [go_sem, sameT]
      · have e : (k == K) = false := by simpa using h3
        simp [go_sem, sameT, e, h3]
    · have e : (y == Y) = false := by simpa using h2
      simp [go_sem, sameT, e, h2]
  · have e : (x == X) = false := by simpa using h1
    simp [go_sem, sameT, e, h1]
theorem eql23 (x y k X Y K : Int) (w : World) :
    (binOp .eql 52 (.agg #[.int .i64 x, .int .i64 y, .int .i64 k]) (.agg #[.int .i64 X, .int .i64 Y, .int .i64 K])).run Tryd.prog w = .ok (.bool (sameT x y k X Y K)) w := by
  by_cases h1 : x = X
  · subst h1
    by_cases h2 : y = Y
    · subst h2
      by_cases h3 : k = K
      · subst h3
        simp [go_sem, sameT]
      · have e : (k == K) = false := by simpa using h3
        simp [go_sem, sameT, e, h3]
    · have e : (y == Y) = false := by simpa using h2
      simp [go_sem, sameT, e, h2]
  · have e : (x == X) = false := by simpa using h1
    simp [go_sem, sameT, e, h1]
end Go.Proofs.YtehmoacggikfmaaDoor
