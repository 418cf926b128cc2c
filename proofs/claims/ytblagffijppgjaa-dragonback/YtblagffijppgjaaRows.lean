/-
  No cell of these rows narrows 'for every input' (looked for: loops, veiled, ifaces, maps, wideKeys, modest, calm, conditions, laid).
  DERIVED. THE GIVEN ROWS OF THIS SEAT. 4 by the template 'for every input the law returns true; each argument reads behind the call as it read before'; 0 by the template 'total and deterministic' (their statements: YtblagffijppgjaaTotals.lean).
  GIVEN WITH THE SEED: the statements are not yours to turn. If you find one false, say at which input.
  Laid BY PROGRAM, IN A SANDBOX (cutbox-rows.mjs): the forced cells as the released guide's own fill.sh prints them over the translation 075537d21631bc18… (all of the seat's roots in one cut). By AI agents, Wed Nov 11 2026. No macro, syntax, notation, axiom, sorry.
-/
import Derived.Test.YtblagffijppgjaaChecked
import GoSem.Claim
import GoSem.ClaimJoined
import GoSem.ClaimMapViews
import Derived.JoinedTies
import Derived.KernelRfl
namespace Go.Proofs.Ytblagffijppgjaa
/- THE CELL 'sum', in the pinned program and in every row, IS THE sha256 OF THE DUMP (.gsa) THAT YtblagffijppgjaaProg.lean LOADS. Nothing in Lean hashes anything: it is a label: what it is worth is what the hold of that sum in a sandbox is worth. -/
noncomputable def Try.pinned : Pinned := { name := "ytblagffijppgjaa", sum := "075537d21631bc18e968d3f36c8f0f22c258fe47ef4da6d46e37abeaa026bb6b", checked := Try.checked }
namespace Rows
def none {H : Type} : Left H := { results := [], args := [] }

/-- 'pleatlaw.DragonTells': WHATEVER THE INPUT: true; the input reads as it did. -/
def dragonTellsSpec : ChangeSpec := { name := "dragonTells", fn := fun _ => fun
  | [d] => { results := [.lit (.bool true)], args := [d] }
  | _ => none }
def dragonTellsRow : OpenClaim := { program := "ytblagffijppgjaa", sum := "075537d21631bc18e968d3f36c8f0f22c258fe47ef4da6d46e37abeaa026bb6b", func := "pleat/pleatlaw.DragonTells", spec := "dragonTells", unfollowed := true, recurses := true, apart := false }
def DragonTellsSaid : Prop := dragonTellsRow.holds Try.pinned (OpenSpec.ofChange dragonTellsSpec)

/-- ITS FALSE NEIGHBOUR: 'it returns false'. Refute it at one input. -/
def dragonTellsWrong : ChangeSpec := { name := "dragonTells", fn := fun _ => fun
  | [d] => { results := [.lit (.bool false)], args := [d] }
  | _ => none }
def DragonTellsWrongFalsely : Prop := dragonTellsRow.holds Try.pinned (OpenSpec.ofChange dragonTellsWrong)

/-- 'pleatlaw.DragonFolds': WHATEVER THE INPUT: true; the input reads as it did. -/
def dragonFoldsSpec : ChangeSpec := { name := "dragonFolds", fn := fun _ => fun
  | [d] => { results := [.lit (.bool true)], args := [d] }
  | _ => none }
def dragonFoldsRow : OpenClaim := { program := "ytblagffijppgjaa", sum := "075537d21631bc18e968d3f36c8f0f22c258fe47ef4da6d46e37abeaa026bb6b", func := "pleat/pleatlaw.DragonFolds", spec := "dragonFolds", unfollowed := true, recurses := true, apart := false }
def DragonFoldsSaid : Prop := dragonFoldsRow.holds Try.pinned (OpenSpec.ofChange dragonFoldsSpec)

/-- ITS FALSE NEIGHBOUR: 'it returns false'. Refute it at one input. -/
def dragonFoldsWrong : ChangeSpec := { name := "dragonFolds", fn := fun _ => fun
  | [d] => { results := [.lit (.bool false)], args := [d] }
  | _ => none }
def DragonFoldsWrongFalsely : Prop := dragonFoldsRow.holds Try.pinned (OpenSpec.ofChange dragonFoldsWrong)

/-- 'pleatkeep.DragonBack': WHATEVER THE INPUT: true; the input reads as it did. -/
def dragonBackSpec : ChangeSpec := { name := "dragonBack", fn := fun _ => fun
  | [d] => { results := [.lit (.bool true)], args := [d] }
  | _ => none }
def dragonBackRow : OpenClaim := { program := "ytblagffijppgjaa", sum := "075537d21631bc18e968d3f36c8f0f22c258fe47ef4da6d46e37abeaa026bb6b", func := "pleat/pleatkeep.DragonBack", spec := "dragonBack", unfollowed := true, recurses := true, apart := false }
def DragonBackSaid : Prop := dragonBackRow.holds Try.pinned (OpenSpec.ofChange dragonBackSpec)

/-- ITS FALSE NEIGHBOUR: 'it returns false'. Refute it at one input. -/
def dragonBackWrong : ChangeSpec := { name := "dragonBack", fn := fun _ => fun
  | [d] => { results := [.lit (.bool false)], args := [d] }
  | _ => none }
def DragonBackWrongFalsely : Prop := dragonBackRow.holds Try.pinned (OpenSpec.ofChange dragonBackWrong)

/-- 'pleatkeep.DragonOnce': WHATEVER THE INPUT: true; the input reads as it did. -/
def dragonOnceSpec : ChangeSpec := { name := "dragonOnce", fn := fun _ => fun
  | [d] => { results := [.lit (.bool true)], args := [d] }
  | _ => none }
def dragonOnceRow : OpenClaim := { program := "ytblagffijppgjaa", sum := "075537d21631bc18e968d3f36c8f0f22c258fe47ef4da6d46e37abeaa026bb6b", func := "pleat/pleatkeep.DragonOnce", spec := "dragonOnce", unfollowed := true, recurses := true, apart := false }
def DragonOnceSaid : Prop := dragonOnceRow.holds Try.pinned (OpenSpec.ofChange dragonOnceSpec)

/-- ITS FALSE NEIGHBOUR: 'it returns false'. Refute it at one input. -/
def dragonOnceWrong : ChangeSpec := { name := "dragonOnce", fn := fun _ => fun
  | [d] => { results := [.lit (.bool false)], args := [d] }
  | _ => none }
def DragonOnceWrongFalsely : Prop := dragonOnceRow.holds Try.pinned (OpenSpec.ofChange dragonOnceWrong)

/- THE SECOND FORM. 'bulk': how many values and letters a reading holds, each counted each time it is reached (what is shared counts as often as it is met; a slice's spare places count too). A statement '..UptoSaid' is the law's where the arguments, and the package variables that the reading takes, are together of bulk at most 1048576: NARROWER than '..Said'. Prove '..Said' where nothing that the law and all that it calls make is longer than what came in: it says more and counts as full. Else prove '..UptoSaid'. A law counts once. -/
mutual
def uptoBulk {H : Type} : DataW H → Nat
  | .lit (.string bytes) => bytes.length + 1
  | .lit _ => 1
  | .nil => 1
  | .ptr d => uptoBulk d + 1
  | .slice elems spare => uptoBulkAll elems + uptoBulkAll spare + 1
  | .agg parts => uptoBulkAll parts + 1
  | .iface _ d => uptoBulk d + 1
  | .map entries => uptoBulkEntries entries + 1
  | .held _ => 1
def uptoBulkAll {H : Type} : List (DataW H) → Nat
  | [] => 0
  | d :: r => uptoBulk d + uptoBulkAll r
def uptoBulkEntries {H : Type} : List (Lit × DataW H) → Nat
  | [] => 0
  | x :: r => uptoBulkEntry x + uptoBulkEntries r
def uptoBulkEntry {H : Type} : Lit × DataW H → Nat
  | (.string bytes, d) => bytes.length + uptoBulk d + 1
  | (_, d) => uptoBulk d + 1
 end
def uptoSmall : (H : Type) → List (DataW H) → Bool := fun _ ds => decide (uptoBulkAll ds ≤ 1048576)
def OpenSpec.upto (s : _root_.Go.ChangeSpec) : _root_.Go.OpenSpec := { _root_.Go.OpenSpec.ofChange s with cond := some uptoSmall }

/-- 'pleatlaw.DragonTells', WHERE WHAT IT READS IS OF BULK AT MOST 1048576: true; the input reads as it did. -/
def dragonTellsUptoRow : OpenClaim := { program := "ytblagffijppgjaa", sum := "075537d21631bc18e968d3f36c8f0f22c258fe47ef4da6d46e37abeaa026bb6b", func := "pleat/pleatlaw.DragonTells", spec := "dragonTells", unfollowed := true, recurses := true, apart := false, narrowed := true }
def DragonTellsUptoSaid : Prop := dragonTellsUptoRow.holds Try.pinned (OpenSpec.upto dragonTellsSpec)

/-- 'pleatlaw.DragonFolds', WHERE WHAT IT READS IS OF BULK AT MOST 1048576: true; the input reads as it did. -/
def dragonFoldsUptoRow : OpenClaim := { program := "ytblagffijppgjaa", sum := "075537d21631bc18e968d3f36c8f0f22c258fe47ef4da6d46e37abeaa026bb6b", func := "pleat/pleatlaw.DragonFolds", spec := "dragonFolds", unfollowed := true, recurses := true, apart := false, narrowed := true }
def DragonFoldsUptoSaid : Prop := dragonFoldsUptoRow.holds Try.pinned (OpenSpec.upto dragonFoldsSpec)

/-- 'pleatkeep.DragonBack', WHERE WHAT IT READS IS OF BULK AT MOST 1048576: true; the input reads as it did. -/
def dragonBackUptoRow : OpenClaim := { program := "ytblagffijppgjaa", sum := "075537d21631bc18e968d3f36c8f0f22c258fe47ef4da6d46e37abeaa026bb6b", func := "pleat/pleatkeep.DragonBack", spec := "dragonBack", unfollowed := true, recurses := true, apart := false, narrowed := true }
def DragonBackUptoSaid : Prop := dragonBackUptoRow.holds Try.pinned (OpenSpec.upto dragonBackSpec)

/-- 'pleatkeep.DragonOnce', WHERE WHAT IT READS IS OF BULK AT MOST 1048576: true; the input reads as it did. -/
def dragonOnceUptoRow : OpenClaim := { program := "ytblagffijppgjaa", sum := "075537d21631bc18e968d3f36c8f0f22c258fe47ef4da6d46e37abeaa026bb6b", func := "pleat/pleatkeep.DragonOnce", spec := "dragonOnce", unfollowed := true, recurses := true, apart := false, narrowed := true }
def DragonOnceUptoSaid : Prop := dragonOnceUptoRow.holds Try.pinned (OpenSpec.upto dragonOnceSpec)

end Rows
end Go.Proofs.Ytblagffijppgjaa
