/-
  No cell of these rows narrows 'for every input' (looked for: loops, veiled, ifaces, maps, wideKeys, modest, calm, conditions, laid).
  DERIVED. THE GIVEN ROWS OF THIS SEAT. 4 by the template 'for every input the law returns true; each argument reads behind the call as it read before'; 0 by the template 'total and deterministic' (their statements: YtohnppjbmpaomaaTotals.lean).
  GIVEN WITH THE SEED: the statements are not yours to turn. If you find one false, say at which input.
  Laid BY PROGRAM, IN A SANDBOX (cutbox-rows.mjs): the forced cells as the released guide's own fill.sh prints them over the translation d9b8a926b5bfc6ae… (all of the seat's roots in one cut). By AI agents, Wed Nov 11 2026. No macro, syntax, notation, axiom, sorry.
-/
import Derived.Test.YtohnppjbmpaomaaChecked
import GoSem.Claim
import GoSem.ClaimJoined
import GoSem.ClaimMapViews
import Derived.JoinedTies
import Derived.KernelRfl
namespace Go.Proofs.Ytohnppjbmpaomaa
/- THE CELL 'sum', in the pinned program and in every row, IS THE sha256 OF THE DUMP (.gsa) THAT YtohnppjbmpaomaaProg.lean LOADS. Nothing in Lean hashes anything: it is a label: what it is worth is what the hold of that sum in a sandbox is worth. -/
noncomputable def Try.pinned : Pinned := { name := "ytohnppjbmpaomaa", sum := "d9b8a926b5bfc6aecd77353cca68102b7ad2ba8dadcf921d3e8cd39dc18887bf", checked := Try.checked }
namespace Rows
def none {H : Type} : Left H := { results := [], args := [] }

/-- 'pleatlaw.AxiomPoints': WHATEVER THE INPUT: true; the input reads as it did. -/
def axiomPointsSpec : ChangeSpec := { name := "axiomPoints", fn := fun _ => fun
  | [d1, d2, d3] => { results := [.lit (.bool true)], args := [d1, d2, d3] }
  | _ => none }
def axiomPointsRow : OpenClaim := { program := "ytohnppjbmpaomaa", sum := "d9b8a926b5bfc6aecd77353cca68102b7ad2ba8dadcf921d3e8cd39dc18887bf", func := "pleat/pleatlaw.AxiomPoints", spec := "axiomPoints", unfollowed := true, recurses := true, apart := false }
def AxiomPointsSaid : Prop := axiomPointsRow.holds Try.pinned (OpenSpec.ofChange axiomPointsSpec)

/-- ITS FALSE NEIGHBOUR: 'it returns false'. Refute it at one input. -/
def axiomPointsWrong : ChangeSpec := { name := "axiomPoints", fn := fun _ => fun
  | [d1, d2, d3] => { results := [.lit (.bool false)], args := [d1, d2, d3] }
  | _ => none }
def AxiomPointsWrongFalsely : Prop := axiomPointsRow.holds Try.pinned (OpenSpec.ofChange axiomPointsWrong)

/-- 'pleatlaw.AxiomLines': WHATEVER THE INPUT: true; the input reads as it did. -/
def axiomLinesSpec : ChangeSpec := { name := "axiomLines", fn := fun _ => fun
  | [d1, d2, d3] => { results := [.lit (.bool true)], args := [d1, d2, d3] }
  | _ => none }
def axiomLinesRow : OpenClaim := { program := "ytohnppjbmpaomaa", sum := "d9b8a926b5bfc6aecd77353cca68102b7ad2ba8dadcf921d3e8cd39dc18887bf", func := "pleat/pleatlaw.AxiomLines", spec := "axiomLines", unfollowed := true, recurses := true, apart := false }
def AxiomLinesSaid : Prop := axiomLinesRow.holds Try.pinned (OpenSpec.ofChange axiomLinesSpec)

/-- ITS FALSE NEIGHBOUR: 'it returns false'. Refute it at one input. -/
def axiomLinesWrong : ChangeSpec := { name := "axiomLines", fn := fun _ => fun
  | [d1, d2, d3] => { results := [.lit (.bool false)], args := [d1, d2, d3] }
  | _ => none }
def AxiomLinesWrongFalsely : Prop := axiomLinesRow.holds Try.pinned (OpenSpec.ofChange axiomLinesWrong)

/-- 'pleatlaw.AxiomTurns': WHATEVER THE INPUT: true; the input reads as it did. -/
def axiomTurnsSpec : ChangeSpec := { name := "axiomTurns", fn := fun _ => fun
  | [d1, d2, d3] => { results := [.lit (.bool true)], args := [d1, d2, d3] }
  | _ => none }
def axiomTurnsRow : OpenClaim := { program := "ytohnppjbmpaomaa", sum := "d9b8a926b5bfc6aecd77353cca68102b7ad2ba8dadcf921d3e8cd39dc18887bf", func := "pleat/pleatlaw.AxiomTurns", spec := "axiomTurns", unfollowed := true, recurses := true, apart := false }
def AxiomTurnsSaid : Prop := axiomTurnsRow.holds Try.pinned (OpenSpec.ofChange axiomTurnsSpec)

/-- ITS FALSE NEIGHBOUR: 'it returns false'. Refute it at one input. -/
def axiomTurnsWrong : ChangeSpec := { name := "axiomTurns", fn := fun _ => fun
  | [d1, d2, d3] => { results := [.lit (.bool false)], args := [d1, d2, d3] }
  | _ => none }
def AxiomTurnsWrongFalsely : Prop := axiomTurnsRow.holds Try.pinned (OpenSpec.ofChange axiomTurnsWrong)

/-- 'pleatkeep.AxiomMiddle': WHATEVER THE INPUT: true; the input reads as it did. -/
def axiomMiddleSpec : ChangeSpec := { name := "axiomMiddle", fn := fun _ => fun
  | [d1, d2, d3, d4] => { results := [.lit (.bool true)], args := [d1, d2, d3, d4] }
  | _ => none }
def axiomMiddleRow : OpenClaim := { program := "ytohnppjbmpaomaa", sum := "d9b8a926b5bfc6aecd77353cca68102b7ad2ba8dadcf921d3e8cd39dc18887bf", func := "pleat/pleatkeep.AxiomMiddle", spec := "axiomMiddle", unfollowed := true, recurses := true, apart := false }
def AxiomMiddleSaid : Prop := axiomMiddleRow.holds Try.pinned (OpenSpec.ofChange axiomMiddleSpec)

/-- ITS FALSE NEIGHBOUR: 'it returns false'. Refute it at one input. -/
def axiomMiddleWrong : ChangeSpec := { name := "axiomMiddle", fn := fun _ => fun
  | [d1, d2, d3, d4] => { results := [.lit (.bool false)], args := [d1, d2, d3, d4] }
  | _ => none }
def AxiomMiddleWrongFalsely : Prop := axiomMiddleRow.holds Try.pinned (OpenSpec.ofChange axiomMiddleWrong)

/- THE SECOND FORM. 'bulk': how many values and letters a reading holds, each counted each time it is reached (what is shared counts as often as it is met; a slice's spare places count too). A statement '..UptoSaid' is the law's where the arguments, and the package variables that the reading takes, are together of bulk at most 1048576: NARROWER than '..Said'. Prove '..Said' where nothing that the law and all that it calls make is longer than what came in: it says more and counts as full. Else prove '..UptoSaid'. A law counts once. -/
mutual
def uptoBulk {H : Type} : DataW H → Nat
  | .lit (.string bytes) => bytes.length + 1
  | .lit _ => 1
  | .nil => 1
  | .ptr d => uptoBulk d + 1
  | .slice elems spare => uptoBulkAll elems + uptoBulkAll spare + 1
  | .agg parts => uptoBulkAll parts + 1
  | .iface _ d => uptoBulk d + 1
  | .map entries => uptoBulkEntries entries + 1
  | .held _ => 1
def uptoBulkAll {H : Type} : List (DataW H) → Nat
  | [] => 0
  | d :: r => uptoBulk d + uptoBulkAll r
def uptoBulkEntries {H : Type} : List (Lit × DataW H) → Nat
  | [] => 0
  | x :: r => uptoBulkEntry x + uptoBulkEntries r
def uptoBulkEntry {H : Type} : Lit × DataW H → Nat
  | (.string bytes, d) => bytes.length + uptoBulk d + 1
  | (_, d) => uptoBulk d + 1
 end
def uptoSmall : (H : Type) → List (DataW H) → Bool := fun _ ds => decide (uptoBulkAll ds ≤ 1048576)
def OpenSpec.upto (s : _root_.Go.ChangeSpec) : _root_.Go.OpenSpec := { _root_.Go.OpenSpec.ofChange s with cond := some uptoSmall }

/-- 'pleatlaw.AxiomPoints', WHERE WHAT IT READS IS OF BULK AT MOST 1048576: true; the input reads as it did. -/
def axiomPointsUptoRow : OpenClaim := { program := "ytohnppjbmpaomaa", sum := "d9b8a926b5bfc6aecd77353cca68102b7ad2ba8dadcf921d3e8cd39dc18887bf", func := "pleat/pleatlaw.AxiomPoints", spec := "axiomPoints", unfollowed := true, recurses := true, apart := false, narrowed := true }
def AxiomPointsUptoSaid : Prop := axiomPointsUptoRow.holds Try.pinned (OpenSpec.upto axiomPointsSpec)

/-- 'pleatlaw.AxiomLines', WHERE WHAT IT READS IS OF BULK AT MOST 1048576: true; the input reads as it did. -/
def axiomLinesUptoRow : OpenClaim := { program := "ytohnppjbmpaomaa", sum := "d9b8a926b5bfc6aecd77353cca68102b7ad2ba8dadcf921d3e8cd39dc18887bf", func := "pleat/pleatlaw.AxiomLines", spec := "axiomLines", unfollowed := true, recurses := true, apart := false, narrowed := true }
def AxiomLinesUptoSaid : Prop := axiomLinesUptoRow.holds Try.pinned (OpenSpec.upto axiomLinesSpec)

/-- 'pleatlaw.AxiomTurns', WHERE WHAT IT READS IS OF BULK AT MOST 1048576: true; the input reads as it did. -/
def axiomTurnsUptoRow : OpenClaim := { program := "ytohnppjbmpaomaa", sum := "d9b8a926b5bfc6aecd77353cca68102b7ad2ba8dadcf921d3e8cd39dc18887bf", func := "pleat/pleatlaw.AxiomTurns", spec := "axiomTurns", unfollowed := true, recurses := true, apart := false, narrowed := true }
def AxiomTurnsUptoSaid : Prop := axiomTurnsUptoRow.holds Try.pinned (OpenSpec.upto axiomTurnsSpec)

/-- 'pleatkeep.AxiomMiddle', WHERE WHAT IT READS IS OF BULK AT MOST 1048576: true; the input reads as it did. -/
def axiomMiddleUptoRow : OpenClaim := { program := "ytohnppjbmpaomaa", sum := "d9b8a926b5bfc6aecd77353cca68102b7ad2ba8dadcf921d3e8cd39dc18887bf", func := "pleat/pleatkeep.AxiomMiddle", spec := "axiomMiddle", unfollowed := true, recurses := true, apart := false, narrowed := true }
def AxiomMiddleUptoSaid : Prop := axiomMiddleUptoRow.holds Try.pinned (OpenSpec.upto axiomMiddleSpec)

end Rows
end Go.Proofs.Ytohnppjbmpaomaa
