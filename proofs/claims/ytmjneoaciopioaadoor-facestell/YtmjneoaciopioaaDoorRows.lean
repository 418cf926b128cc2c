/-
  NARROWER THAN 'FOR EVERY INPUT', by the rows' own cells (each row's printed sentence says how): FacesTell: laid · FacesStars: laid · FlatTroubles: laid · FlatPlaces: laid.
  DERIVED. THE GIVEN ROWS OF THIS SEAT. 4 by the template 'for every input the law returns true; each argument reads behind the call as it read before'; 0 by the template 'total and deterministic' (their statements: YtmjneoaciopioaaDoorTotals.lean).
  GIVEN WITH THE SEED: the statements are not yours to turn. If you find one false, say at which input.
  Laid BY PROGRAM, IN A SANDBOX (cutbox-rows.mjs): the forced cells as the released guide's own fill.sh prints them over the translation c6bcb50da2a97229… (all of the seat's roots in one cut). By AI agents, Wed Nov 11 2026. No macro, syntax, notation, axiom, sorry.
-/
import Derived.Test.YtmjneoaciopioaaDoorChecked
import GoSem.Claim
import GoSem.ClaimJoined
import GoSem.ClaimMapViews
import Derived.JoinedTies
import Derived.KernelRfl
namespace Go.Proofs.YtmjneoaciopioaaDoor
/- THE CELL 'sum', in the pinned program and in every row, IS THE sha256 OF THE DUMP (.gsa) THAT YtmjneoaciopioaaDoorProg.lean LOADS. Nothing in Lean hashes anything: it is a label: what it is worth is what the hold of that sum in a sandbox is worth. -/
noncomputable def Tryd.pinned : Pinned := { name := "ytmjneoaciopioaadoor", sum := "c6bcb50da2a97229c399ae37e5a4c5b8ec5c11fc6241b6f5f83e01a81057f008", checked := Tryd.checked }
namespace Rows
def none {H : Type} : Left H := { results := [], args := [] }

/- WHAT THE LISTED PACKAGE-LEVEL VARIABLES READ AS WHEN THE CALL BEGINS. Each datum BY PROGRAM (the guide's laid-datum.mjs) off the statement by which the dump's own 'gosem.cut.vars' lays the variable. In a bare row this is a premise. The card (YtmjneoaciopioaaDoorCards.lean) ties it to the program's text. -/
def laid_pleat_grid_steps {H : Type} : DataW H := .agg [.agg [.lit (.int .i64 (-1)), .lit (.int .i64 (-1))], .agg [.lit (.int .i64 1), .lit (.int .i64 (-1))], .agg [.lit (.int .i64 1), .lit (.int .i64 1)], .agg [.lit (.int .i64 (-1)), .lit (.int .i64 1)]]

/-- 'pleatlaw.FacesTell': WHATEVER THE INPUT: true; the input reads as it did. -/
def facesTellSpec : ChangeSpec := { name := "facesTell", fn := fun _ => fun
  | [d] => { results := [.lit (.bool true)], args := [d] }
  | _ => none }
def facesTellRow : OpenClaim := { program := "ytmjneoaciopioaadoor", sum := "c6bcb50da2a97229c399ae37e5a4c5b8ec5c11fc6241b6f5f83e01a81057f008", func := "pleat/pleatlaw.FacesTell", spec := "facesTell", unfollowed := true, recurses := true, named := ["pleat/grid.steps"], plainKeys := false, apart := false, laid := [("pleat/grid.steps", laid_pleat_grid_steps)] }
def FacesTellSaid : Prop := facesTellRow.holds Tryd.pinned (OpenSpec.ofChange facesTellSpec)

/-- ITS FALSE NEIGHBOUR: 'it returns false'. Refute it at one input. -/
def facesTellWrong : ChangeSpec := { name := "facesTell", fn := fun _ => fun
  | [d] => { results := [.lit (.bool false)], args := [d] }
  | _ => none }
def FacesTellWrongFalsely : Prop := facesTellRow.holds Tryd.pinned (OpenSpec.ofChange facesTellWrong)

/-- 'pleatlaw.FacesStars': WHATEVER THE INPUT: true; the input reads as it did. -/
def facesStarsSpec : ChangeSpec := { name := "facesStars", fn := fun _ => fun
  | [d] => { results := [.lit (.bool true)], args := [d] }
  | _ => none }
def facesStarsRow : OpenClaim := { program := "ytmjneoaciopioaadoor", sum := "c6bcb50da2a97229c399ae37e5a4c5b8ec5c11fc6241b6f5f83e01a81057f008", func := "pleat/pleatlaw.FacesStars", spec := "facesStars", unfollowed := true, recurses := true, named := ["pleat/grid.steps"], plainKeys := false, apart := false, laid := [("pleat/grid.steps", laid_pleat_grid_steps)] }
def FacesStarsSaid : Prop := facesStarsRow.holds Tryd.pinned (OpenSpec.ofChange facesStarsSpec)

/-- ITS FALSE NEIGHBOUR: 'it returns false'. Refute it at one input. -/
def facesStarsWrong : ChangeSpec := { name := "facesStars", fn := fun _ => fun
  | [d] => { results := [.lit (.bool false)], args := [d] }
  | _ => none }
def FacesStarsWrongFalsely : Prop := facesStarsRow.holds Tryd.pinned (OpenSpec.ofChange facesStarsWrong)

/-- 'pleatlaw.FlatTroubles': WHATEVER THE INPUT: true; the input reads as it did. -/
def flatTroublesSpec : ChangeSpec := { name := "flatTroubles", fn := fun _ => fun
  | [d] => { results := [.lit (.bool true)], args := [d] }
  | _ => none }
def flatTroublesRow : OpenClaim := { program := "ytmjneoaciopioaadoor", sum := "c6bcb50da2a97229c399ae37e5a4c5b8ec5c11fc6241b6f5f83e01a81057f008", func := "pleat/pleatlaw.FlatTroubles", spec := "flatTroubles", unfollowed := true, recurses := true, named := ["pleat/grid.steps"], plainKeys := false, apart := false, laid := [("pleat/grid.steps", laid_pleat_grid_steps)] }
def FlatTroublesSaid : Prop := flatTroublesRow.holds Tryd.pinned (OpenSpec.ofChange flatTroublesSpec)

/-- ITS FALSE NEIGHBOUR: 'it returns false'. Refute it at one input. -/
def flatTroublesWrong : ChangeSpec := { name := "flatTroubles", fn := fun _ => fun
  | [d] => { results := [.lit (.bool false)], args := [d] }
  | _ => none }
def FlatTroublesWrongFalsely : Prop := flatTroublesRow.holds Tryd.pinned (OpenSpec.ofChange flatTroublesWrong)

/-- 'pleatlaw.FlatPlaces': WHATEVER THE INPUT: true; the input reads as it did. -/
def flatPlacesSpec : ChangeSpec := { name := "flatPlaces", fn := fun _ => fun
  | [d] => { results := [.lit (.bool true)], args := [d] }
  | _ => none }
def flatPlacesRow : OpenClaim := { program := "ytmjneoaciopioaadoor", sum := "c6bcb50da2a97229c399ae37e5a4c5b8ec5c11fc6241b6f5f83e01a81057f008", func := "pleat/pleatlaw.FlatPlaces", spec := "flatPlaces", unfollowed := true, recurses := true, named := ["pleat/grid.steps"], plainKeys := false, apart := false, laid := [("pleat/grid.steps", laid_pleat_grid_steps)] }
def FlatPlacesSaid : Prop := flatPlacesRow.holds Tryd.pinned (OpenSpec.ofChange flatPlacesSpec)

/-- ITS FALSE NEIGHBOUR: 'it returns false'. Refute it at one input. -/
def flatPlacesWrong : ChangeSpec := { name := "flatPlaces", fn := fun _ => fun
  | [d] => { results := [.lit (.bool false)], args := [d] }
  | _ => none }
def FlatPlacesWrongFalsely : Prop := flatPlacesRow.holds Tryd.pinned (OpenSpec.ofChange flatPlacesWrong)

/- THE SECOND FORM. 'bulk': how many values and letters a reading holds, each counted each time it is reached (what is shared counts as often as it is met; a slice's spare places count too). A statement '..UptoSaid' is the law's where the arguments, and the package variables that the reading takes, are together of bulk at most 1048576: NARROWER than '..Said'. Prove '..Said' where nothing that the law and all that it calls make is longer than what came in: it says more and counts as full. Else prove '..UptoSaid'. A law counts once. -/
mutual
def uptoBulk {H : Type} : DataW H → Nat
  | .lit (.string bytes) => bytes.length + 1
  | .lit _ => 1
  | .nil => 1
  | .ptr d => uptoBulk d + 1
  | .slice elems spare => uptoBulkAll elems + uptoBulkAll spare + 1
  | .agg parts => uptoBulkAll parts + 1
  | .iface _ d => uptoBulk d + 1
  | .map entries => uptoBulkEntries entries + 1
  | .held _ => 1
def uptoBulkAll {H : Type} : List (DataW H) → Nat
  | [] => 0
  | d :: r => uptoBulk d + uptoBulkAll r
def uptoBulkEntries {H : Type} : List (Lit × DataW H) → Nat
  | [] => 0
  | x :: r => uptoBulkEntry x + uptoBulkEntries r
def uptoBulkEntry {H : Type} : Lit × DataW H → Nat
  | (.string bytes, d) => bytes.length + uptoBulk d + 1
  | (_, d) => uptoBulk d + 1
 end
def uptoSmall : (H : Type) → List (DataW H) → Bool := fun _ ds => decide (uptoBulkAll ds ≤ 1048576)
def OpenSpec.upto (s : _root_.Go.ChangeSpec) : _root_.Go.OpenSpec := { _root_.Go.OpenSpec.ofChange s with cond := some uptoSmall }

/-- 'pleatlaw.FacesTell', WHERE WHAT IT READS IS OF BULK AT MOST 1048576: true; the input reads as it did. -/
def facesTellUptoRow : OpenClaim := { program := "ytmjneoaciopioaadoor", sum := "c6bcb50da2a97229c399ae37e5a4c5b8ec5c11fc6241b6f5f83e01a81057f008", func := "pleat/pleatlaw.FacesTell", spec := "facesTell", unfollowed := true, recurses := true, named := ["pleat/grid.steps"], plainKeys := false, apart := false, laid := [("pleat/grid.steps", laid_pleat_grid_steps)], narrowed := true }
def FacesTellUptoSaid : Prop := facesTellUptoRow.holds Tryd.pinned (OpenSpec.upto facesTellSpec)

/-- 'pleatlaw.FacesStars', WHERE WHAT IT READS IS OF BULK AT MOST 1048576: true; the input reads as it did. -/
def facesStarsUptoRow : OpenClaim := { program := "ytmjneoaciopioaadoor", sum := "c6bcb50da2a97229c399ae37e5a4c5b8ec5c11fc6241b6f5f83e01a81057f008", func := "pleat/pleatlaw.FacesStars", spec := "facesStars", unfollowed := true, recurses := true, named := ["pleat/grid.steps"], plainKeys := false, apart := false, laid := [("pleat/grid.steps", laid_pleat_grid_steps)], narrowed := true }
def FacesStarsUptoSaid : Prop := facesStarsUptoRow.holds Tryd.pinned (OpenSpec.upto facesStarsSpec)

/-- 'pleatlaw.FlatTroubles', WHERE WHAT IT READS IS OF BULK AT MOST 1048576: true; the input reads as it did. -/
def flatTroublesUptoRow : OpenClaim := { program := "ytmjneoaciopioaadoor", sum := "c6bcb50da2a97229c399ae37e5a4c5b8ec5c11fc6241b6f5f83e01a81057f008", func := "pleat/pleatlaw.FlatTroubles", spec := "flatTroubles", unfollowed := true, recurses := true, named := ["pleat/grid.steps"], plainKeys := false, apart := false, laid := [("pleat/grid.steps", laid_pleat_grid_steps)], narrowed := true }
def FlatTroublesUptoSaid : Prop := flatTroublesUptoRow.holds Tryd.pinned (OpenSpec.upto flatTroublesSpec)

/-- 'pleatlaw.FlatPlaces', WHERE WHAT IT READS IS OF BULK AT MOST 1048576: true; the input reads as it did. -/
def flatPlacesUptoRow : OpenClaim := { program := "ytmjneoaciopioaadoor", sum := "c6bcb50da2a97229c399ae37e5a4c5b8ec5c11fc6241b6f5f83e01a81057f008", func := "pleat/pleatlaw.FlatPlaces", spec := "flatPlaces", unfollowed := true, recurses := true, named := ["pleat/grid.steps"], plainKeys := false, apart := false, laid := [("pleat/grid.steps", laid_pleat_grid_steps)], narrowed := true }
def FlatPlacesUptoSaid : Prop := flatPlacesUptoRow.holds Tryd.pinned (OpenSpec.upto flatPlacesSpec)

end Rows
end Go.Proofs.YtmjneoaciopioaaDoor
