/-
  DERIVED. GIVEN WITH THE SEED: THE CARDS: each row of YtmjhfdohcghhoaaGreatDoorRows.lean that lists a variable, with what it lists TIED to the program's text (the seventh form; the later family's looks); each row that meets fmt, with fmt's text TOLD by the authors' own Lean function (tested against real Go, not proved from fmt's source: count such statements apart). THE CARD IS WHAT COUNTS. Prove the row's statement (the work); the ties are given (YtmjhfdohcghhoaaGreatDoorTie.lean); close each card by the builder's one call (the guide's Derived/Test/ToyasCard.lean, 'card_holds'). Laid BY PROGRAM, IN A SANDBOX (cutbox-door.mjs). By AI agents, Wed Nov 11 2026. No macro, syntax, notation, axiom, sorry.
-/
import Derived.Test.YtmjhfdohcghhoaaGreatDoorRows
import GoSem.ClaimSeven
namespace Go.Proofs.YtmjhfdohcghhoaaGreatDoor
namespace Rows

/-- THE TIED CARD OF 'pleatlaw.CutTells'. -/
def cutTellsCard : Claim7 := { stood := { row := cutTellsRow, standIns := [], harness := (true, "277f12e9ee5d884b7496011b6c3c15c96920cecd70f8060f7b3055d65f45690b"), looks := false }, kinds := [], alts := [], laidByText := true, laidKinds := [.called], laidTests := true, laidLooks := .later }
def CutTellsCardSaid : Prop := Claim7.holds Tryz.pinned (.plain (OpenSpec.ofChange cutTellsSpec)) cutTellsCard

/-- THE TIED CARD OF 'pleatlaw.CutPunches'. -/
def cutPunchesCard : Claim7 := { stood := { row := cutPunchesRow, standIns := [], harness := (true, "277f12e9ee5d884b7496011b6c3c15c96920cecd70f8060f7b3055d65f45690b"), looks := false }, kinds := [], alts := [], laidByText := true, laidKinds := [.called], laidTests := true, laidLooks := .later }
def CutPunchesCardSaid : Prop := Claim7.holds Tryz.pinned (.plain (OpenSpec.ofChange cutPunchesSpec)) cutPunchesCard

/-- THE TIED CARD OF 'pleatlaw.ViewTells'. -/
def viewTellsCard : Claim7 := { stood := { row := viewTellsRow, standIns := [], harness := (true, "277f12e9ee5d884b7496011b6c3c15c96920cecd70f8060f7b3055d65f45690b"), looks := false }, kinds := [], alts := [], laidByText := true, laidKinds := [.data, .data, .data, .called], laidTests := true, laidLooks := .later }
def ViewTellsCardSaid : Prop := Claim7.holds Tryz.pinned (.plain (OpenSpec.ofChange viewTellsSpec)) viewTellsCard

/-- THE SECOND FORM's CARD OF 'pleatlaw.CutTells'. -/
def cutTellsUptoCard : Claim7 := { stood := { row := cutTellsUptoRow, standIns := [], harness := (true, "277f12e9ee5d884b7496011b6c3c15c96920cecd70f8060f7b3055d65f45690b"), looks := false }, kinds := [], alts := [], laidByText := true, laidKinds := [.called], laidTests := true, laidLooks := .later }
def CutTellsUptoCardSaid : Prop := Claim7.holds Tryz.pinned (.plain (OpenSpec.upto cutTellsSpec)) cutTellsUptoCard

/-- THE SECOND FORM's CARD OF 'pleatlaw.CutPunches'. -/
def cutPunchesUptoCard : Claim7 := { stood := { row := cutPunchesUptoRow, standIns := [], harness := (true, "277f12e9ee5d884b7496011b6c3c15c96920cecd70f8060f7b3055d65f45690b"), looks := false }, kinds := [], alts := [], laidByText := true, laidKinds := [.called], laidTests := true, laidLooks := .later }
def CutPunchesUptoCardSaid : Prop := Claim7.holds Tryz.pinned (.plain (OpenSpec.upto cutPunchesSpec)) cutPunchesUptoCard

/-- THE SECOND FORM's CARD OF 'pleatlaw.ViewTells'. -/
def viewTellsUptoCard : Claim7 := { stood := { row := viewTellsUptoRow, standIns := [], harness := (true, "277f12e9ee5d884b7496011b6c3c15c96920cecd70f8060f7b3055d65f45690b"), looks := false }, kinds := [], alts := [], laidByText := true, laidKinds := [.data, .data, .data, .called], laidTests := true, laidLooks := .later }
def ViewTellsUptoCardSaid : Prop := Claim7.holds Tryz.pinned (.plain (OpenSpec.upto viewTellsSpec)) viewTellsUptoCard
end Rows
end Go.Proofs.YtmjhfdohcghhoaaGreatDoor
