/- How many orders there are. -/
import Derived.Test.YtdflindoemffaaaCunt
import Derived.Test.YtdflindoemffaaaCn8a
import Derived.Test.YtdflindoemffaaaCn8b
namespace Go.Proofs.Ytdflindoemffaaa

theorem c8 : cnt 8 8 [] = 1392 := by
  have hb : badN ([] : List Int).length 8 (hN 8 []) = false := by decide +kernel
  have hr : List.range 8 = [0, 1, 2, 3, 4, 5, 6, 7] := by decide
  have hc : ∀ t : Nat, ([] : List Int).contains ((t : Int) + 1) = false := fun t => rfl
  unfold cnt
  rw [hb, hr]
  simp only [hc, Bool.false_eq_true, if_false, List.map_cons, List.map_nil, c80, c81, c82, c83, c84, c85, c86, c87]
  rfl
def mny : Nat → Nat
  | 0 => 1
  | 1 => 2
  | 2 => 6
  | 3 => 16
  | 4 => 50
  | 5 => 144
  | 6 => 462
  | _ => 1392
theorem many_are (q : Nat) (h : q < 8) : (ords gdB (q + 1) (q + 1) []).length = mny q := by
  rw [← cnt_len (q + 1) (by omega) (q + 1) [] (by simp) (pp_nil _)]
  have : q = 0 ∨ q = 1 ∨ q = 2 ∨ q = 3 ∨ q = 4 ∨ q = 5 ∨ q = 6 ∨ q = 7 := by omega
  rcases this with rfl | rfl | rfl | rfl | rfl | rfl | rfl | rfl
  · exact c1
  · exact c2
  · exact c3n
  · exact c4
  · exact c5
  · exact c6
  · exact c7
  · exact c8
end Go.Proofs.Ytdflindoemffaaa
