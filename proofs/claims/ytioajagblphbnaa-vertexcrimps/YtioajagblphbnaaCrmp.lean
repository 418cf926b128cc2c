/- How many lists go where all angles are alike. -/
import Derived.Test.YtioajagblphbnaaAlll
namespace Go.Proofs.Ytioajagblphbnaa
theorem cnt2 : cnt (dsk [7, 7]) 4 = 2 := by decide +kernel
theorem cnt4 : cnt (dsk [7, 7, 7, 7]) 16 = 8 := by decide +kernel
theorem cnt4b : cnt (dsk [1, 1, 1, 1]) 16 = 8 := by decide +kernel
theorem cnt6 : cnt (dsk [7, 7, 7, 7, 7, 7]) 64 = 30 := by decide +kernel
end Go.Proofs.Ytioajagblphbnaa
