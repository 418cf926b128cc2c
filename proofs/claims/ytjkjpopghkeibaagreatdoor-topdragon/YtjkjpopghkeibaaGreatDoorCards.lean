/-
  DERIVED. GIVEN WITH THE SEED: THE CARDS: each row of YtjkjpopghkeibaaGreatDoorRows.lean that lists a variable, with what it lists TIED to the program's text (the seventh form; the later family's looks); each row that meets fmt, with fmt's text TOLD by the authors' own Lean function (tested against real Go, not proved from fmt's source: count such statements apart). THE CARD IS WHAT COUNTS. Prove the row's statement (the work); the ties are given (YtjkjpopghkeibaaGreatDoorTie.lean); close each card by the builder's one call (the guide's Derived/Test/ToyasCard.lean, 'card_holds'). Laid BY PROGRAM, IN A SANDBOX (cutbox-door.mjs). By AI agents, Wed Nov 11 2026. No macro, syntax, notation, axiom, sorry.
-/
import Derived.Test.YtjkjpopghkeibaaGreatDoorRows
import GoSem.ClaimSeven
namespace Go.Proofs.YtjkjpopghkeibaaGreatDoor
namespace Rows

/-- THE TIED CARD OF 'pleattop.TopDragon'. -/
def topDragonCard : Claim7 := { stood := { row := topDragonRow, standIns := [], harness := (true, "246e3b261956e0c2bebffa0dc9d1fb4644fd167f977b24935702fd8aa69a6aa0"), looks := false }, kinds := [], alts := [], laidByText := true, laidKinds := [.called], laidTests := true, laidLooks := .later }
def TopDragonCardSaid : Prop := Claim7.holds Tryz.pinned (.plain (OpenSpec.ofChange topDragonSpec)) topDragonCard

/-- THE SECOND FORM's CARD OF 'pleattop.TopDragon'. -/
def topDragonUptoCard : Claim7 := { stood := { row := topDragonUptoRow, standIns := [], harness := (true, "246e3b261956e0c2bebffa0dc9d1fb4644fd167f977b24935702fd8aa69a6aa0"), looks := false }, kinds := [], alts := [], laidByText := true, laidKinds := [.called], laidTests := true, laidLooks := .later }
def TopDragonUptoCardSaid : Prop := Claim7.holds Tryz.pinned (.plain (OpenSpec.upto topDragonSpec)) topDragonUptoCard
end Rows
end Go.Proofs.YtjkjpopghkeibaaGreatDoor
