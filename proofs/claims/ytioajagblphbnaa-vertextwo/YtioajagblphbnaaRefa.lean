/- The reference's AnglesMay, between. -/
import Derived.Test.YtioajagblphbnaaFlat
namespace Go.Proofs.Ytioajagblphbnaa
open Go.RowKit

end Go.Proofs.Ytioajagblphbnaa
