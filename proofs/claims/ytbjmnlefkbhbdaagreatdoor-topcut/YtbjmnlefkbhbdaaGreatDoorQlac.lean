/- A part of it. -/
import Derived.Test.YtbjmnlefkbhbdaaGreatDoorRows
import Derived.ProofKit
set_option maxRecDepth 100000
set_option maxHeartbeats 40000000
namespace Go.Proofs.YtbjmnlefkbhbdaaGreatDoor
open Go
theorem and_t {a b:Bool} (h1:a=true) (h2:b=true):(a && b)=true:=by rw [h1,h2];rfl
theorem topCut_closed:joinedFacts Tryz.prog 3 Tryz.f3 (OpenSpec.ofChange Rows.topCutSpec).bare Rows.topCutRow=true:=by
 unfold joinedFacts;with_reducible repeat' (refine and_t ?_ ?_)
 all_goals (as_aux_lemma=>kernel_rfl)
end Go.Proofs.YtbjmnlefkbhbdaaGreatDoor
