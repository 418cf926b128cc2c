/- The reference's Orders. -/
import Derived.Test.YtioajagblphbnaaOrdr
namespace Go.Proofs.Ytioajagblphbnaa
open Go.RowKit

theorem inf4 : (Try.prog.info? 4).map (fun i => (i.zero, i.size, i.bytes)) = some (some (.bool false), 1, 1) := by kernel_rfl
theorem own_first (w : World) : (w.alloc (.cells #[.int .i64 0] 3)).ownsRow w.heap.size 3 1 (.slice (some ⟨w.heap.size, 0, none⟩) 1 1) 1 (rowI [0]) :=
  ⟨by simp [rowI], .inr ⟨w.heap.size, 1, #[.int .i64 0], rfl, Nat.le_refl _, heap_alloc_new w _, Nat.le_refl _, by unfold maxLen; omega, by simp, by simp [rowI]⟩⟩
/-- Rows that 'make' made. -/
theorem made_cells {w : World} {base e g n : Nat} {z : Value} (h : w.ownsRow base e 1 (.slice (some ⟨g, 0, none⟩) n n) n (madeCells #[z] n).toList) : ∀ i, i < n → w.cell? ⟨g, i, none⟩ = some z ∧ w.frozen? ⟨g, i, none⟩ = false := fun i hi => by
  have hc := h.cellAt i (by omega)
  rw [toList_madeCells_one] at hc
  refine ⟨by rw [hc]; simp [hi], ?_⟩
  rcases h.2 with ⟨h1, _⟩ | ⟨g', cap, cur, h1, _, h3, _⟩
  · cases h1
  · cases h1
    simp [World.frozen?, h3]
theorem shl_nat {n : Nat} (h : n ≤ 8) : wrap64 ((2 : Int) ^ n) = ((2 ^ n : Nat) : Int) ∧ 2 ^ n ≤ 256 := by
  have : n = 0 ∨ n = 1 ∨ n = 2 ∨ n = 3 ∨ n = 4 ∨ n = 5 ∨ n = 6 ∨ n = 7 ∨ n = 8 := by omega
  rcases this with rfl | rfl | rfl | rfl | rfl | rfl | rfl | rfl | rfl <;> exact ⟨by first | go_num | (simp [wrap64]; done) | kernel_rfl, by decide⟩
theorem gt_rep (n i : Nat) (h : i < n) : gt (List.replicate n 0) i = 0 := by simp [gt, h]
end Go.Proofs.Ytioajagblphbnaa
