/- A sheet that came in, opened. -/
import Derived.Test.YtnpboeodhpenmaaGreatDoorCards
import Derived.Test.YtnpboeodhpenmaaGreatDoorTie
import Derived.Test.YtnpboeodhpenmaaGreatDoorQlag
import Derived.SizedLaws
import Derived.WalkKit
import Derived.Deep.DeepHandedRow
import Derived.Lib.LaidTab
import Derived.ChangeOld
namespace Go.Proofs.YtnpboeodhpenmaaGreatDoor
open Go.ChangeShapes Go.WideShapes Go.ChangeAt Go.WideMaps Go.WideElems Go.RowKit Go.Joins

theorem laidOut : laidOutB Tryz.prog = true := by kernel_rfl

theorem by3 : Tryz.prog.bytesOf 3 = 8 := by kernel_rfl
theorem by110 : Tryz.prog.bytesOf 80 = 40 := by kernel_rfl
set_option maxRecDepth 100000 in
theorem weights_sheet {H : Type} (a b c d : DataW H) : DataW.weights Tryz.prog 25 (.agg [a, b, c, d]) = DataW.weightsEach Tryz.prog [3, 3, 22, 23] [a, b, c, d] := by
  unfold DataW.weights
  rw [Tryz.underlying25]
  rfl

end Go.Proofs.YtnpboeodhpenmaaGreatDoor
