/- What lies across an edge: the grid's beyondSide and Across. -/
import Derived.Test.YtehmoacggikfmaaDoorQlav
import Derived.Test.YtehmoacggikfmaaDoorQlat
import Derived.Test.YtehmoacggikfmaaDoorQlaw
namespace Go.Proofs.YtehmoacggikfmaaDoor
open Go.RowKit
attribute [local go_sem ↓] Go.wp_at_zero Go.wp_at_succ

theorem sameB_sym (a b c d p q r s : Int) : sameB a b c d p q r s = sameB p q r s a b c d := by
  unfold sameB
  congr 1
  simp [eq_comm]

/-- An edge's four numbers in a row of memory. -/
def Qd (w : World) (g : Nat) (p q r s : Int) : Prop := w.cell? ⟨g, 0, none⟩ = some (.int .i64 p) ∧ w.cell? ⟨g, 1, none⟩ = some (.int .i64 q) ∧ w.cell? ⟨g, 2, none⟩ = some (.int .i64 r) ∧ w.cell? ⟨g, 3, none⟩ = some (.int .i64 s)
theorem Qd.lt {w : World} {g : Nat} {p q r s : Int} (h : Qd w g p q r s) : g < w.heap.size := World.block_lt_of_cell? _ _ h.1
theorem Qd.kept {w wx : World} {g : Nat} {p q r s : Int} (h : Qd w g p q r s) (hb : Below w.heap.size w wx) : Qd wx g p q r s := by
  obtain ⟨h0, h1, h2, h3⟩ := h
  exact ⟨cl_kept hb h0, cl_kept hb h1, cl_kept hb h2, cl_kept hb h3⟩

end Go.Proofs.YtehmoacggikfmaaDoor
