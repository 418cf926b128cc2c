/- Orders of eight, by the stamp that lies lowest. -/
import Derived.Test.YtdflindoemffaaaCoun
namespace Go.Proofs.Ytdflindoemffaaa

theorem c80 : cnt 8 7 ([] ++ [((0 : Nat) : Int) + 1]) = 174 := by decide +kernel
theorem c81 : cnt 8 7 ([] ++ [((1 : Nat) : Int) + 1]) = 174 := by decide +kernel
theorem c82 : cnt 8 7 ([] ++ [((2 : Nat) : Int) + 1]) = 174 := by decide +kernel
theorem c83 : cnt 8 7 ([] ++ [((3 : Nat) : Int) + 1]) = 174 := by decide +kernel
end Go.Proofs.Ytdflindoemffaaa
