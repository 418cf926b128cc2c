/-
  DERIVED. GIVEN WITH THE SEED: THE CARDS: each row of YthkhiedpkmpifaaDoorRows.lean that lists a variable, with what it lists TIED to the program's text (the seventh form; the later family's looks); each row that meets fmt, with fmt's text TOLD by the authors' own Lean function (tested against real Go, not proved from fmt's source: count such statements apart). THE CARD IS WHAT COUNTS. Prove the row's statement (the work); the ties are given (YthkhiedpkmpifaaDoorTie.lean); close each card by the builder's one call (the guide's Derived/Test/ToyasCard.lean, 'card_holds'). Laid BY PROGRAM, IN A SANDBOX (cutbox-door.mjs). By AI agents, Wed Nov 11 2026. No macro, syntax, notation, axiom, sorry.
-/
import Derived.Test.YthkhiedpkmpifaaDoorRows
import GoSem.ClaimSeven
namespace Go.Proofs.YthkhiedpkmpifaaDoor
namespace Rows

/-- THE TIED CARD OF 'pleatlaw.GridTris'. -/
def gridTrisCard : Claim7 := { stood := { row := gridTrisRow, standIns := [], harness := (true, "e396fc5e26d5ea459dec96eddc8c3259c5156c0bdeb34574fcb198344fc29eef"), looks := false }, kinds := [], alts := [], laidByText := true, laidKinds := [.called], laidTests := true, laidLooks := .later }
def GridTrisCardSaid : Prop := Claim7.holds Tryd.pinned (.plain (OpenSpec.ofChange gridTrisSpec)) gridTrisCard

/-- THE TIED CARD OF 'pleatlaw.GridLines'. -/
def gridLinesCard : Claim7 := { stood := { row := gridLinesRow, standIns := [], harness := (true, "e396fc5e26d5ea459dec96eddc8c3259c5156c0bdeb34574fcb198344fc29eef"), looks := false }, kinds := [], alts := [], laidByText := true, laidKinds := [.called], laidTests := true, laidLooks := .later }
def GridLinesCardSaid : Prop := Claim7.holds Tryd.pinned (.plain (OpenSpec.ofChange gridLinesSpec)) gridLinesCard

/-- THE TIED CARD OF 'pleatlaw.GridMaps'. -/
def gridMapsCard : Claim7 := { stood := { row := gridMapsRow, standIns := [], harness := (true, "e396fc5e26d5ea459dec96eddc8c3259c5156c0bdeb34574fcb198344fc29eef"), looks := false }, kinds := [], alts := [], laidByText := true, laidKinds := [.called], laidTests := true, laidLooks := .later }
def GridMapsCardSaid : Prop := Claim7.holds Tryd.pinned (.plain (OpenSpec.ofChange gridMapsSpec)) gridMapsCard

/-- THE TIED CARD OF 'pleatkeep.GridTwice'. -/
def gridTwiceCard : Claim7 := { stood := { row := gridTwiceRow, standIns := [], harness := (true, "e396fc5e26d5ea459dec96eddc8c3259c5156c0bdeb34574fcb198344fc29eef"), looks := false }, kinds := [], alts := [], laidByText := true, laidKinds := [.called], laidTests := true, laidLooks := .later }
def GridTwiceCardSaid : Prop := Claim7.holds Tryd.pinned (.plain (OpenSpec.ofChange gridTwiceSpec)) gridTwiceCard

/-- THE TIED CARD OF 'pleatkeep.GridGroup'. -/
def gridGroupCard : Claim7 := { stood := { row := gridGroupRow, standIns := [], harness := (true, "e396fc5e26d5ea459dec96eddc8c3259c5156c0bdeb34574fcb198344fc29eef"), looks := false }, kinds := [], alts := [], laidByText := true, laidKinds := [.called], laidTests := true, laidLooks := .later }
def GridGroupCardSaid : Prop := Claim7.holds Tryd.pinned (.plain (OpenSpec.ofChange gridGroupSpec)) gridGroupCard

/-- THE TIED CARD OF 'pleatlaw.SheetTells'. -/
def sheetTellsCard : Claim7 := { stood := { row := sheetTellsRow, standIns := [], harness := (true, "e396fc5e26d5ea459dec96eddc8c3259c5156c0bdeb34574fcb198344fc29eef"), looks := false }, kinds := [], alts := [], laidByText := true, laidKinds := [.data, .data, .data, .called], laidTests := true, laidLooks := .later }
def SheetTellsCardSaid : Prop := Claim7.holds Tryd.pinned (.plain (OpenSpec.ofChange sheetTellsSpec)) sheetTellsCard

/-- THE SECOND FORM's CARD OF 'pleatlaw.GridTris'. -/
def gridTrisUptoCard : Claim7 := { stood := { row := gridTrisUptoRow, standIns := [], harness := (true, "e396fc5e26d5ea459dec96eddc8c3259c5156c0bdeb34574fcb198344fc29eef"), looks := false }, kinds := [], alts := [], laidByText := true, laidKinds := [.called], laidTests := true, laidLooks := .later }
def GridTrisUptoCardSaid : Prop := Claim7.holds Tryd.pinned (.plain (OpenSpec.upto gridTrisSpec)) gridTrisUptoCard

/-- THE SECOND FORM's CARD OF 'pleatlaw.GridLines'. -/
def gridLinesUptoCard : Claim7 := { stood := { row := gridLinesUptoRow, standIns := [], harness := (true, "e396fc5e26d5ea459dec96eddc8c3259c5156c0bdeb34574fcb198344fc29eef"), looks := false }, kinds := [], alts := [], laidByText := true, laidKinds := [.called], laidTests := true, laidLooks := .later }
def GridLinesUptoCardSaid : Prop := Claim7.holds Tryd.pinned (.plain (OpenSpec.upto gridLinesSpec)) gridLinesUptoCard

/-- THE SECOND FORM's CARD OF 'pleatlaw.GridMaps'. -/
def gridMapsUptoCard : Claim7 := { stood := { row := gridMapsUptoRow, standIns := [], harness := (true, "e396fc5e26d5ea459dec96eddc8c3259c5156c0bdeb34574fcb198344fc29eef"), looks := false }, kinds := [], alts := [], laidByText := true, laidKinds := [.called], laidTests := true, laidLooks := .later }
def GridMapsUptoCardSaid : Prop := Claim7.holds Tryd.pinned (.plain (OpenSpec.upto gridMapsSpec)) gridMapsUptoCard

/-- THE SECOND FORM's CARD OF 'pleatkeep.GridTwice'. -/
def gridTwiceUptoCard : Claim7 := { stood := { row := gridTwiceUptoRow, standIns := [], harness := (true, "e396fc5e26d5ea459dec96eddc8c3259c5156c0bdeb34574fcb198344fc29eef"), looks := false }, kinds := [], alts := [], laidByText := true, laidKinds := [.called], laidTests := true, laidLooks := .later }
def GridTwiceUptoCardSaid : Prop := Claim7.holds Tryd.pinned (.plain (OpenSpec.upto gridTwiceSpec)) gridTwiceUptoCard

/-- THE SECOND FORM's CARD OF 'pleatkeep.GridGroup'. -/
def gridGroupUptoCard : Claim7 := { stood := { row := gridGroupUptoRow, standIns := [], harness := (true, "e396fc5e26d5ea459dec96eddc8c3259c5156c0bdeb34574fcb198344fc29eef"), looks := false }, kinds := [], alts := [], laidByText := true, laidKinds := [.called], laidTests := true, laidLooks := .later }
def GridGroupUptoCardSaid : Prop := Claim7.holds Tryd.pinned (.plain (OpenSpec.upto gridGroupSpec)) gridGroupUptoCard

/-- THE SECOND FORM's CARD OF 'pleatlaw.SheetTells'. -/
def sheetTellsUptoCard : Claim7 := { stood := { row := sheetTellsUptoRow, standIns := [], harness := (true, "e396fc5e26d5ea459dec96eddc8c3259c5156c0bdeb34574fcb198344fc29eef"), looks := false }, kinds := [], alts := [], laidByText := true, laidKinds := [.data, .data, .data, .called], laidTests := true, laidLooks := .later }
def SheetTellsUptoCardSaid : Prop := Claim7.holds Tryd.pinned (.plain (OpenSpec.upto sheetTellsSpec)) sheetTellsUptoCard
end Rows
end Go.Proofs.YthkhiedpkmpifaaDoor
