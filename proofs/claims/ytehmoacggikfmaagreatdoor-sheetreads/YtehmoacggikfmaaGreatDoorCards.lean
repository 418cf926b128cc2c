/-
  DERIVED. GIVEN WITH THE SEED: THE CARDS: each row of YtehmoacggikfmaaGreatDoorRows.lean that lists a variable, with what it lists TIED to the program's text (the seventh form; the later family's looks); each row that meets fmt, with fmt's text TOLD by the authors' own Lean function (tested against real Go, not proved from fmt's source: count such statements apart). THE CARD IS WHAT COUNTS. Prove the row's statement (the work); the ties are given (YtehmoacggikfmaaGreatDoorTie.lean); close each card by the builder's one call (the guide's Derived/Test/ToyasCard.lean, 'card_holds'). Laid BY PROGRAM, IN A SANDBOX (cutbox-door.mjs). By AI agents, Wed Nov 11 2026. No macro, syntax, notation, axiom, sorry.
-/
import Derived.Test.YtehmoacggikfmaaGreatDoorRows
import GoSem.ClaimSeven
namespace Go.Proofs.YtehmoacggikfmaaGreatDoor
namespace Rows

/-- THE TIED CARD OF 'pleatlaw.SheetReads'. -/
def sheetReadsCard : Claim7 := { stood := { row := sheetReadsRow, standIns := [], harness := (true, "93e0d59f7e35138c637ee3496872065e0e511e0947d936202f0e3054175ea4ac"), looks := true }, kinds := [], alts := [], laidByText := true, laidKinds := [.data, .called, .pinned], laidTests := true, laidLooks := .later }
def SheetReadsCardSaid : Prop := Claim7.holds Tryz.pinned (.plain (OpenSpec.ofChange sheetReadsSpec)) sheetReadsCard

/-- THE SECOND FORM's CARD OF 'pleatlaw.SheetReads'. -/
def sheetReadsUptoCard : Claim7 := { stood := { row := sheetReadsUptoRow, standIns := [], harness := (true, "93e0d59f7e35138c637ee3496872065e0e511e0947d936202f0e3054175ea4ac"), looks := true }, kinds := [], alts := [], laidByText := true, laidKinds := [.data, .called, .pinned], laidTests := true, laidLooks := .later }
def SheetReadsUptoCardSaid : Prop := Claim7.holds Tryz.pinned (.plain (OpenSpec.upto sheetReadsSpec)) sheetReadsUptoCard
end Rows
end Go.Proofs.YtehmoacggikfmaaGreatDoor
