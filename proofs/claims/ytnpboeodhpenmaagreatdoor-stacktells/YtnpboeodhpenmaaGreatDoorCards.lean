/-
  DERIVED. GIVEN WITH THE SEED: THE CARDS: each row of YtnpboeodhpenmaaGreatDoorRows.lean that lists a variable, with what it lists TIED to the program's text (the seventh form; the later family's looks); each row that meets fmt, with fmt's text TOLD by the authors' own Lean function (tested against real Go, not proved from fmt's source: count such statements apart). THE CARD IS WHAT COUNTS. Prove the row's statement (the work); the ties are given (YtnpboeodhpenmaaGreatDoorTie.lean); close each card by the builder's one call (the guide's Derived/Test/ToyasCard.lean, 'card_holds'). Laid BY PROGRAM, IN A SANDBOX (cutbox-door.mjs). By AI agents, Wed Nov 11 2026. No macro, syntax, notation, axiom, sorry.
-/
import Derived.Test.YtnpboeodhpenmaaGreatDoorRows
import GoSem.ClaimSeven
namespace Go.Proofs.YtnpboeodhpenmaaGreatDoor
namespace Rows

/-- THE TIED CARD OF 'pleatlaw.StackTells'. -/
def stackTellsCard : Claim7 := { stood := { row := stackTellsRow, standIns := [], harness := (true, "68c86e5b00ff84ab8ab0520185958888b7f43883686d0455718af9e1bf46f0c7"), looks := false }, kinds := [], alts := [], laidByText := true, laidKinds := [.called], laidTests := true, laidLooks := .later }
def StackTellsCardSaid : Prop := Claim7.holds Tryz.pinned (.plain (OpenSpec.ofChange stackTellsSpec)) stackTellsCard

/-- THE TIED CARD OF 'pleatlaw.FoldDoes'. -/
def foldDoesCard : Claim7 := { stood := { row := foldDoesRow, standIns := [], harness := (true, "68c86e5b00ff84ab8ab0520185958888b7f43883686d0455718af9e1bf46f0c7"), looks := false }, kinds := [], alts := [], laidByText := true, laidKinds := [.called], laidTests := true, laidLooks := .later }
def FoldDoesCardSaid : Prop := Claim7.holds Tryz.pinned (.plain (OpenSpec.ofChange foldDoesSpec)) foldDoesCard

/-- THE TIED CARD OF 'pleatlaw.ViewTells'. -/
def viewTellsCard : Claim7 := { stood := { row := viewTellsRow, standIns := [], harness := (true, "68c86e5b00ff84ab8ab0520185958888b7f43883686d0455718af9e1bf46f0c7"), looks := false }, kinds := [], alts := [], laidByText := true, laidKinds := [.data, .data, .data, .called], laidTests := true, laidLooks := .later }
def ViewTellsCardSaid : Prop := Claim7.holds Tryz.pinned (.plain (OpenSpec.ofChange viewTellsSpec)) viewTellsCard

/-- THE TIED CARD OF 'pleattop.TopDragon'. -/
def topDragonCard : Claim7 := { stood := { row := topDragonRow, standIns := [], harness := (true, "68c86e5b00ff84ab8ab0520185958888b7f43883686d0455718af9e1bf46f0c7"), looks := false }, kinds := [], alts := [], laidByText := true, laidKinds := [.called], laidTests := true, laidLooks := .later }
def TopDragonCardSaid : Prop := Claim7.holds Tryz.pinned (.plain (OpenSpec.ofChange topDragonSpec)) topDragonCard

/-- THE TIED CARD OF 'pleattop.TopCut'. -/
def topCutCard : Claim7 := { stood := { row := topCutRow, standIns := [], harness := (true, "68c86e5b00ff84ab8ab0520185958888b7f43883686d0455718af9e1bf46f0c7"), looks := false }, kinds := [], alts := [], laidByText := true, laidKinds := [.called], laidTests := true, laidLooks := .later }
def TopCutCardSaid : Prop := Claim7.holds Tryz.pinned (.plain (OpenSpec.ofChange topCutSpec)) topCutCard

/-- THE SECOND FORM's CARD OF 'pleatlaw.StackTells'. -/
def stackTellsUptoCard : Claim7 := { stood := { row := stackTellsUptoRow, standIns := [], harness := (true, "68c86e5b00ff84ab8ab0520185958888b7f43883686d0455718af9e1bf46f0c7"), looks := false }, kinds := [], alts := [], laidByText := true, laidKinds := [.called], laidTests := true, laidLooks := .later }
def StackTellsUptoCardSaid : Prop := Claim7.holds Tryz.pinned (.plain (OpenSpec.upto stackTellsSpec)) stackTellsUptoCard

/-- THE SECOND FORM's CARD OF 'pleatlaw.FoldDoes'. -/
def foldDoesUptoCard : Claim7 := { stood := { row := foldDoesUptoRow, standIns := [], harness := (true, "68c86e5b00ff84ab8ab0520185958888b7f43883686d0455718af9e1bf46f0c7"), looks := false }, kinds := [], alts := [], laidByText := true, laidKinds := [.called], laidTests := true, laidLooks := .later }
def FoldDoesUptoCardSaid : Prop := Claim7.holds Tryz.pinned (.plain (OpenSpec.upto foldDoesSpec)) foldDoesUptoCard

/-- THE SECOND FORM's CARD OF 'pleatlaw.ViewTells'. -/
def viewTellsUptoCard : Claim7 := { stood := { row := viewTellsUptoRow, standIns := [], harness := (true, "68c86e5b00ff84ab8ab0520185958888b7f43883686d0455718af9e1bf46f0c7"), looks := false }, kinds := [], alts := [], laidByText := true, laidKinds := [.data, .data, .data, .called], laidTests := true, laidLooks := .later }
def ViewTellsUptoCardSaid : Prop := Claim7.holds Tryz.pinned (.plain (OpenSpec.upto viewTellsSpec)) viewTellsUptoCard

/-- THE SECOND FORM's CARD OF 'pleattop.TopDragon'. -/
def topDragonUptoCard : Claim7 := { stood := { row := topDragonUptoRow, standIns := [], harness := (true, "68c86e5b00ff84ab8ab0520185958888b7f43883686d0455718af9e1bf46f0c7"), looks := false }, kinds := [], alts := [], laidByText := true, laidKinds := [.called], laidTests := true, laidLooks := .later }
def TopDragonUptoCardSaid : Prop := Claim7.holds Tryz.pinned (.plain (OpenSpec.upto topDragonSpec)) topDragonUptoCard

/-- THE SECOND FORM's CARD OF 'pleattop.TopCut'. -/
def topCutUptoCard : Claim7 := { stood := { row := topCutUptoRow, standIns := [], harness := (true, "68c86e5b00ff84ab8ab0520185958888b7f43883686d0455718af9e1bf46f0c7"), looks := false }, kinds := [], alts := [], laidByText := true, laidKinds := [.called], laidTests := true, laidLooks := .later }
def TopCutUptoCardSaid : Prop := Claim7.holds Tryz.pinned (.plain (OpenSpec.upto topCutSpec)) topCutUptoCard
end Rows
end Go.Proofs.YtnpboeodhpenmaaGreatDoor
