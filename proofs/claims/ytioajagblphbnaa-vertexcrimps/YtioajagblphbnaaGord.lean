/- The reference's goodOrder. -/
import Derived.Test.YtioajagblphbnaaRefk
namespace Go.Proofs.Ytioajagblphbnaa
open Go.RowKit

def okJ (X : List Int) (n : Nat) (G : List Int) (j : Nat) : Bool := ((List.range n).all fun c => !(rPast X c j && bet (gt G c) (gt G (sA n j)) (gt G j))) && ((List.range j).all fun k => !rPair X n G j k)
theorem goodR_eq (X : List Int) (n : Nat) (G : List Int) : goodR X n G = (List.range n).all fun j => okJ X n G j := rfl
end Go.Proofs.Ytioajagblphbnaa
