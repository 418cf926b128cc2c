/- A part of the proof of sheetTells_holds. -/
import Derived.Test.YtehmoacggikfmaaDoorQlaj
import Derived.Test.YtehmoacggikfmaaDoorQlao
namespace Go.Proofs.YtehmoacggikfmaaDoor
open Go.RowKit

theorem map_bd {a b c d e f : Int} (h : mapB a b c d e f = true) : Sm a b c d ∧ Ef e f ∧ e % 2 = 0 ∧ f % 2 = 0 := by
  simp [mapB, unitB, evenB] at h
  unfold Sm Ef; omega

theorem back_may {a b c d e f : Int} (h : mapB a b c d e f = true) : mapB a c b d (-(dot a c e f)) (-(dot b d e f)) = true := by
  have hh := h
  simp [mapB, unitB, evenB] at h ⊢
  obtain ⟨⟨hk, he1, he2, he3⟩, hf1, hf2, hf3⟩ := h
  rcases hk with ⟨⟨⟨ha, hb⟩, hc⟩, hd⟩ | ⟨⟨⟨ha, hb⟩, hc⟩, hd⟩
  · rcases ha with rfl | rfl <;> subst hb hc <;> rcases hd with rfl | rfl <;> simp [dot] <;> omega
  · subst ha hd; rcases hb with rfl | rfl <;> rcases hc with rfl | rfl <;> simp [dot] <;> omega


end Go.Proofs.YtehmoacggikfmaaDoor
