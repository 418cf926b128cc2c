/- How many lists go where all angles are alike. -/
import Derived.Test.YtioajagblphbnaaAlll
namespace Go.Proofs.Ytioajagblphbnaa
theorem cnt8 : cnt (dsk [7, 7, 7, 7, 7, 7, 7, 7]) 256 = 112 := by decide +kernel
end Go.Proofs.Ytioajagblphbnaa
