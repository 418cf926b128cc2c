/- How many orders there are. -/
import Derived.Test.YtdflindoemffaaaCoun
namespace Go.Proofs.Ytdflindoemffaaa

theorem c1 : cnt 1 1 [] = 1 := by decide +kernel
theorem c2 : cnt 2 2 [] = 2 := by decide +kernel
theorem c3n : cnt 3 3 [] = 6 := by decide +kernel
theorem c4 : cnt 4 4 [] = 16 := by decide +kernel
theorem c5 : cnt 5 5 [] = 50 := by decide +kernel
theorem c6 : cnt 6 6 [] = 144 := by decide +kernel
theorem c7 : cnt 7 7 [] = 462 := by decide +kernel
end Go.Proofs.Ytdflindoemffaaa
