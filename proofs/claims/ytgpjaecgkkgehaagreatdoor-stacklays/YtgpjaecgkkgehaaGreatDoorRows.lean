/-
  NARROWER THAN 'FOR EVERY INPUT', by the rows' own cells (each row's printed sentence says how): StackLays: laid · FoldFlat: laid · CutTells: laid · CutPunches: laid.
  DERIVED. THE GIVEN ROWS OF THIS SEAT. 4 by the template 'for every input the law returns true; each argument reads behind the call as it read before'; 0 by the template 'total and deterministic' (their statements: YtgpjaecgkkgehaaGreatDoorTotals.lean).
  GIVEN WITH THE SEED: the statements are not yours to turn. If you find one false, say at which input.
  Laid BY PROGRAM, IN A SANDBOX (cutbox-rows.mjs): the forced cells as the released guide's own fill.sh prints them over the translation 395e1e1c49856df2… (all of the seat's roots in one cut). By AI agents, Wed Nov 11 2026. No macro, syntax, notation, axiom, sorry.
-/
import Derived.Test.YtgpjaecgkkgehaaGreatDoorChecked
import GoSem.Claim
import GoSem.ClaimJoined
import GoSem.ClaimMapViews
import Derived.JoinedTies
import Derived.KernelRfl
namespace Go.Proofs.YtgpjaecgkkgehaaGreatDoor
/- THE CELL 'sum', in the pinned program and in every row, IS THE sha256 OF THE DUMP (.gsa) THAT YtgpjaecgkkgehaaGreatDoorProg.lean LOADS. Nothing in Lean hashes anything: it is a label: what it is worth is what the hold of that sum in a sandbox is worth. -/
noncomputable def Tryz.pinned : Pinned := { name := "ytgpjaecgkkgehaagreatdoor", sum := "395e1e1c49856df20b42ff6a84ca9f1b754c192f9277db384f630592722420ea", checked := Tryz.checked }
namespace Rows
def none {H : Type} : Left H := { results := [], args := [] }

/- WHAT THE LISTED PACKAGE-LEVEL VARIABLES READ AS WHEN THE CALL BEGINS. Each datum BY PROGRAM (the guide's laid-datum.mjs) off the statement by which the dump's own 'gosem.cut.vars' lays the variable. In a bare row this is a premise. The card (YtgpjaecgkkgehaaGreatDoorCards.lean) ties it to the program's text. -/
def laid_pleat_grid_steps {H : Type} : DataW H := .agg [.agg [.lit (.int .i64 (-1)), .lit (.int .i64 (-1))], .agg [.lit (.int .i64 1), .lit (.int .i64 (-1))], .agg [.lit (.int .i64 1), .lit (.int .i64 1)], .agg [.lit (.int .i64 (-1)), .lit (.int .i64 1)]]

/-- 'pleatlaw.StackLays': WHATEVER THE INPUT: true; the input reads as it did. -/
def stackLaysSpec : ChangeSpec := { name := "stackLays", fn := fun _ => fun
  | [d1, d2] => { results := [.lit (.bool true)], args := [d1, d2] }
  | _ => none }
def stackLaysRow : OpenClaim := { program := "ytgpjaecgkkgehaagreatdoor", sum := "395e1e1c49856df20b42ff6a84ca9f1b754c192f9277db384f630592722420ea", func := "pleat/pleatlaw.StackLays", spec := "stackLays", unfollowed := true, recurses := true, named := ["pleat/grid.steps"], plainKeys := false, apart := false, laid := [("pleat/grid.steps", laid_pleat_grid_steps)] }
def StackLaysSaid : Prop := stackLaysRow.holds Tryz.pinned (OpenSpec.ofChange stackLaysSpec)

/-- ITS FALSE NEIGHBOUR: 'it returns false'. Refute it at one input. -/
def stackLaysWrong : ChangeSpec := { name := "stackLays", fn := fun _ => fun
  | [d1, d2] => { results := [.lit (.bool false)], args := [d1, d2] }
  | _ => none }
def StackLaysWrongFalsely : Prop := stackLaysRow.holds Tryz.pinned (OpenSpec.ofChange stackLaysWrong)

/-- 'pleatlaw.FoldFlat': WHATEVER THE INPUT: true; the input reads as it did. -/
def foldFlatSpec : ChangeSpec := { name := "foldFlat", fn := fun _ => fun
  | [d] => { results := [.lit (.bool true)], args := [d] }
  | _ => none }
def foldFlatRow : OpenClaim := { program := "ytgpjaecgkkgehaagreatdoor", sum := "395e1e1c49856df20b42ff6a84ca9f1b754c192f9277db384f630592722420ea", func := "pleat/pleatlaw.FoldFlat", spec := "foldFlat", unfollowed := true, recurses := true, named := ["pleat/grid.steps"], plainKeys := false, apart := false, laid := [("pleat/grid.steps", laid_pleat_grid_steps)] }
def FoldFlatSaid : Prop := foldFlatRow.holds Tryz.pinned (OpenSpec.ofChange foldFlatSpec)

/-- ITS FALSE NEIGHBOUR: 'it returns false'. Refute it at one input. -/
def foldFlatWrong : ChangeSpec := { name := "foldFlat", fn := fun _ => fun
  | [d] => { results := [.lit (.bool false)], args := [d] }
  | _ => none }
def FoldFlatWrongFalsely : Prop := foldFlatRow.holds Tryz.pinned (OpenSpec.ofChange foldFlatWrong)

/-- 'pleatlaw.CutTells': WHATEVER THE INPUT: true; the input reads as it did. -/
def cutTellsSpec : ChangeSpec := { name := "cutTells", fn := fun _ => fun
  | [d1, d2] => { results := [.lit (.bool true)], args := [d1, d2] }
  | _ => none }
def cutTellsRow : OpenClaim := { program := "ytgpjaecgkkgehaagreatdoor", sum := "395e1e1c49856df20b42ff6a84ca9f1b754c192f9277db384f630592722420ea", func := "pleat/pleatlaw.CutTells", spec := "cutTells", unfollowed := true, recurses := true, named := ["pleat/grid.steps"], plainKeys := false, apart := false, laid := [("pleat/grid.steps", laid_pleat_grid_steps)] }
def CutTellsSaid : Prop := cutTellsRow.holds Tryz.pinned (OpenSpec.ofChange cutTellsSpec)

/-- ITS FALSE NEIGHBOUR: 'it returns false'. Refute it at one input. -/
def cutTellsWrong : ChangeSpec := { name := "cutTells", fn := fun _ => fun
  | [d1, d2] => { results := [.lit (.bool false)], args := [d1, d2] }
  | _ => none }
def CutTellsWrongFalsely : Prop := cutTellsRow.holds Tryz.pinned (OpenSpec.ofChange cutTellsWrong)

/-- 'pleatlaw.CutPunches': WHATEVER THE INPUT: true; the input reads as it did. -/
def cutPunchesSpec : ChangeSpec := { name := "cutPunches", fn := fun _ => fun
  | [d1, d2] => { results := [.lit (.bool true)], args := [d1, d2] }
  | _ => none }
def cutPunchesRow : OpenClaim := { program := "ytgpjaecgkkgehaagreatdoor", sum := "395e1e1c49856df20b42ff6a84ca9f1b754c192f9277db384f630592722420ea", func := "pleat/pleatlaw.CutPunches", spec := "cutPunches", unfollowed := true, recurses := true, named := ["pleat/grid.steps"], plainKeys := false, apart := false, laid := [("pleat/grid.steps", laid_pleat_grid_steps)] }
def CutPunchesSaid : Prop := cutPunchesRow.holds Tryz.pinned (OpenSpec.ofChange cutPunchesSpec)

/-- ITS FALSE NEIGHBOUR: 'it returns false'. Refute it at one input. -/
def cutPunchesWrong : ChangeSpec := { name := "cutPunches", fn := fun _ => fun
  | [d1, d2] => { results := [.lit (.bool false)], args := [d1, d2] }
  | _ => none }
def CutPunchesWrongFalsely : Prop := cutPunchesRow.holds Tryz.pinned (OpenSpec.ofChange cutPunchesWrong)

/- THE SECOND FORM. 'bulk': how many values and letters a reading holds, each counted each time it is reached (what is shared counts as often as it is met; a slice's spare places count too). A statement '..UptoSaid' is the law's where the arguments, and the package variables that the reading takes, are together of bulk at most 1048576: NARROWER than '..Said'. Prove '..Said' where nothing that the law and all that it calls make is longer than what came in: it says more and counts as full. Else prove '..UptoSaid'. A law counts once. -/
mutual
def uptoBulk {H : Type} : DataW H → Nat
  | .lit (.string bytes) => bytes.length + 1
  | .lit _ => 1
  | .nil => 1
  | .ptr d => uptoBulk d + 1
  | .slice elems spare => uptoBulkAll elems + uptoBulkAll spare + 1
  | .agg parts => uptoBulkAll parts + 1
  | .iface _ d => uptoBulk d + 1
  | .map entries => uptoBulkEntries entries + 1
  | .held _ => 1
def uptoBulkAll {H : Type} : List (DataW H) → Nat
  | [] => 0
  | d :: r => uptoBulk d + uptoBulkAll r
def uptoBulkEntries {H : Type} : List (Lit × DataW H) → Nat
  | [] => 0
  | x :: r => uptoBulkEntry x + uptoBulkEntries r
def uptoBulkEntry {H : Type} : Lit × DataW H → Nat
  | (.string bytes, d) => bytes.length + uptoBulk d + 1
  | (_, d) => uptoBulk d + 1
 end
def uptoSmall : (H : Type) → List (DataW H) → Bool := fun _ ds => decide (uptoBulkAll ds ≤ 1048576)
def OpenSpec.upto (s : _root_.Go.ChangeSpec) : _root_.Go.OpenSpec := { _root_.Go.OpenSpec.ofChange s with cond := some uptoSmall }

/-- 'pleatlaw.StackLays', WHERE WHAT IT READS IS OF BULK AT MOST 1048576: true; the input reads as it did. -/
def stackLaysUptoRow : OpenClaim := { program := "ytgpjaecgkkgehaagreatdoor", sum := "395e1e1c49856df20b42ff6a84ca9f1b754c192f9277db384f630592722420ea", func := "pleat/pleatlaw.StackLays", spec := "stackLays", unfollowed := true, recurses := true, named := ["pleat/grid.steps"], plainKeys := false, apart := false, laid := [("pleat/grid.steps", laid_pleat_grid_steps)], narrowed := true }
def StackLaysUptoSaid : Prop := stackLaysUptoRow.holds Tryz.pinned (OpenSpec.upto stackLaysSpec)

/-- 'pleatlaw.FoldFlat', WHERE WHAT IT READS IS OF BULK AT MOST 1048576: true; the input reads as it did. -/
def foldFlatUptoRow : OpenClaim := { program := "ytgpjaecgkkgehaagreatdoor", sum := "395e1e1c49856df20b42ff6a84ca9f1b754c192f9277db384f630592722420ea", func := "pleat/pleatlaw.FoldFlat", spec := "foldFlat", unfollowed := true, recurses := true, named := ["pleat/grid.steps"], plainKeys := false, apart := false, laid := [("pleat/grid.steps", laid_pleat_grid_steps)], narrowed := true }
def FoldFlatUptoSaid : Prop := foldFlatUptoRow.holds Tryz.pinned (OpenSpec.upto foldFlatSpec)

/-- 'pleatlaw.CutTells', WHERE WHAT IT READS IS OF BULK AT MOST 1048576: true; the input reads as it did. -/
def cutTellsUptoRow : OpenClaim := { program := "ytgpjaecgkkgehaagreatdoor", sum := "395e1e1c49856df20b42ff6a84ca9f1b754c192f9277db384f630592722420ea", func := "pleat/pleatlaw.CutTells", spec := "cutTells", unfollowed := true, recurses := true, named := ["pleat/grid.steps"], plainKeys := false, apart := false, laid := [("pleat/grid.steps", laid_pleat_grid_steps)], narrowed := true }
def CutTellsUptoSaid : Prop := cutTellsUptoRow.holds Tryz.pinned (OpenSpec.upto cutTellsSpec)

/-- 'pleatlaw.CutPunches', WHERE WHAT IT READS IS OF BULK AT MOST 1048576: true; the input reads as it did. -/
def cutPunchesUptoRow : OpenClaim := { program := "ytgpjaecgkkgehaagreatdoor", sum := "395e1e1c49856df20b42ff6a84ca9f1b754c192f9277db384f630592722420ea", func := "pleat/pleatlaw.CutPunches", spec := "cutPunches", unfollowed := true, recurses := true, named := ["pleat/grid.steps"], plainKeys := false, apart := false, laid := [("pleat/grid.steps", laid_pleat_grid_steps)], narrowed := true }
def CutPunchesUptoSaid : Prop := cutPunchesUptoRow.holds Tryz.pinned (OpenSpec.upto cutPunchesSpec)

end Rows
end Go.Proofs.YtgpjaecgkkgehaaGreatDoor
