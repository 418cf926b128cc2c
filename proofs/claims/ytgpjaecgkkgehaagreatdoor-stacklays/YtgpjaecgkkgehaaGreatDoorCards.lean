/-
  DERIVED. GIVEN WITH THE SEED: THE CARDS: each row of YtgpjaecgkkgehaaGreatDoorRows.lean that lists a variable, with what it lists TIED to the program's text (the seventh form; the later family's looks); each row that meets fmt, with fmt's text TOLD by the authors' own Lean function (tested against real Go, not proved from fmt's source: count such statements apart). THE CARD IS WHAT COUNTS. Prove the row's statement (the work); the ties are given (YtgpjaecgkkgehaaGreatDoorTie.lean); close each card by the builder's one call (the guide's Derived/Test/ToyasCard.lean, 'card_holds'). Laid BY PROGRAM, IN A SANDBOX (cutbox-door.mjs). By AI agents, Wed Nov 11 2026. No macro, syntax, notation, axiom, sorry.
-/
import Derived.Test.YtgpjaecgkkgehaaGreatDoorRows
import GoSem.ClaimSeven
namespace Go.Proofs.YtgpjaecgkkgehaaGreatDoor
namespace Rows

/-- THE TIED CARD OF 'pleatlaw.StackLays'. -/
def stackLaysCard : Claim7 := { stood := { row := stackLaysRow, standIns := [], harness := (true, "f20a2a338364c46f238c83bb63526a8608da6a4368485dea3ac5851f78c5ecb7"), looks := false }, kinds := [], alts := [], laidByText := true, laidKinds := [.called], laidTests := true, laidLooks := .later }
def StackLaysCardSaid : Prop := Claim7.holds Tryz.pinned (.plain (OpenSpec.ofChange stackLaysSpec)) stackLaysCard

/-- THE TIED CARD OF 'pleatlaw.FoldFlat'. -/
def foldFlatCard : Claim7 := { stood := { row := foldFlatRow, standIns := [], harness := (true, "f20a2a338364c46f238c83bb63526a8608da6a4368485dea3ac5851f78c5ecb7"), looks := false }, kinds := [], alts := [], laidByText := true, laidKinds := [.called], laidTests := true, laidLooks := .later }
def FoldFlatCardSaid : Prop := Claim7.holds Tryz.pinned (.plain (OpenSpec.ofChange foldFlatSpec)) foldFlatCard

/-- THE TIED CARD OF 'pleatlaw.CutTells'. -/
def cutTellsCard : Claim7 := { stood := { row := cutTellsRow, standIns := [], harness := (true, "f20a2a338364c46f238c83bb63526a8608da6a4368485dea3ac5851f78c5ecb7"), looks := false }, kinds := [], alts := [], laidByText := true, laidKinds := [.called], laidTests := true, laidLooks := .later }
def CutTellsCardSaid : Prop := Claim7.holds Tryz.pinned (.plain (OpenSpec.ofChange cutTellsSpec)) cutTellsCard

/-- THE TIED CARD OF 'pleatlaw.CutPunches'. -/
def cutPunchesCard : Claim7 := { stood := { row := cutPunchesRow, standIns := [], harness := (true, "f20a2a338364c46f238c83bb63526a8608da6a4368485dea3ac5851f78c5ecb7"), looks := false }, kinds := [], alts := [], laidByText := true, laidKinds := [.called], laidTests := true, laidLooks := .later }
def CutPunchesCardSaid : Prop := Claim7.holds Tryz.pinned (.plain (OpenSpec.ofChange cutPunchesSpec)) cutPunchesCard

/-- THE SECOND FORM's CARD OF 'pleatlaw.StackLays'. -/
def stackLaysUptoCard : Claim7 := { stood := { row := stackLaysUptoRow, standIns := [], harness := (true, "f20a2a338364c46f238c83bb63526a8608da6a4368485dea3ac5851f78c5ecb7"), looks := false }, kinds := [], alts := [], laidByText := true, laidKinds := [.called], laidTests := true, laidLooks := .later }
def StackLaysUptoCardSaid : Prop := Claim7.holds Tryz.pinned (.plain (OpenSpec.upto stackLaysSpec)) stackLaysUptoCard

/-- THE SECOND FORM's CARD OF 'pleatlaw.FoldFlat'. -/
def foldFlatUptoCard : Claim7 := { stood := { row := foldFlatUptoRow, standIns := [], harness := (true, "f20a2a338364c46f238c83bb63526a8608da6a4368485dea3ac5851f78c5ecb7"), looks := false }, kinds := [], alts := [], laidByText := true, laidKinds := [.called], laidTests := true, laidLooks := .later }
def FoldFlatUptoCardSaid : Prop := Claim7.holds Tryz.pinned (.plain (OpenSpec.upto foldFlatSpec)) foldFlatUptoCard

/-- THE SECOND FORM's CARD OF 'pleatlaw.CutTells'. -/
def cutTellsUptoCard : Claim7 := { stood := { row := cutTellsUptoRow, standIns := [], harness := (true, "f20a2a338364c46f238c83bb63526a8608da6a4368485dea3ac5851f78c5ecb7"), looks := false }, kinds := [], alts := [], laidByText := true, laidKinds := [.called], laidTests := true, laidLooks := .later }
def CutTellsUptoCardSaid : Prop := Claim7.holds Tryz.pinned (.plain (OpenSpec.upto cutTellsSpec)) cutTellsUptoCard

/-- THE SECOND FORM's CARD OF 'pleatlaw.CutPunches'. -/
def cutPunchesUptoCard : Claim7 := { stood := { row := cutPunchesUptoRow, standIns := [], harness := (true, "f20a2a338364c46f238c83bb63526a8608da6a4368485dea3ac5851f78c5ecb7"), looks := false }, kinds := [], alts := [], laidByText := true, laidKinds := [.called], laidTests := true, laidLooks := .later }
def CutPunchesUptoCardSaid : Prop := Claim7.holds Tryz.pinned (.plain (OpenSpec.upto cutPunchesSpec)) cutPunchesUptoCard
end Rows
end Go.Proofs.YtgpjaecgkkgehaaGreatDoor
