/- Orders of eight, by the stamp that lies lowest. -/
import Derived.Test.YtdflindoemffaaaCoun
namespace Go.Proofs.Ytdflindoemffaaa

theorem c84 : cnt 8 7 ([] ++ [((4 : Nat) : Int) + 1]) = 174 := by decide +kernel
theorem c85 : cnt 8 7 ([] ++ [((5 : Nat) : Int) + 1]) = 174 := by decide +kernel
theorem c86 : cnt 8 7 ([] ++ [((6 : Nat) : Int) + 1]) = 174 := by decide +kernel
theorem c87 : cnt 8 7 ([] ++ [((7 : Nat) : Int) + 1]) = 174 := by decide +kernel
end Go.Proofs.Ytdflindoemffaaa
