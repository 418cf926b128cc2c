/- The closed facts of ViewTells' row, one by one. -/
import Derived.Test.YtnpboeodhpenmaaGreatDoorRows
import Derived.ProofKit
import Derived.JoinedCond
namespace Go.Proofs.YtnpboeodhpenmaaGreatDoor
open Go

theorem and_t {a b : Bool} (h1 : a = true) (h2 : b = true) : (a && b) = true := by rw [h1, h2]; rfl
set_option maxRecDepth 100000 in
set_option maxHeartbeats 16000000 in
theorem viewTells_closed : joinedFacts Tryz.prog 5 Tryz.f5 (OpenSpec.ofChange Rows.viewTellsSpec).bare Rows.viewTellsRow = true := by
  unfold joinedFacts
  with_reducible repeat' (refine and_t ?_ ?_)
  all_goals (as_aux_lemma => kernel_rfl)
end Go.Proofs.YtnpboeodhpenmaaGreatDoor
