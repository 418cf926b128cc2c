/- Where a map brings a triangle: the numbers. -/
import Derived.Test.YtfpfgfbkbpgolaaDoorMvof
import Derived.Test.YtfpfgfbkbpgolaaDoorAnsw
namespace Go.Proofs.YtfpfgfbkbpgolaaDoor
open Go.RowKit

theorem move_data (a b c d e f x y k : Int) (h1 : mapB a b c d e f = true) (h3 : triB x y k = true) :
    ∃ X Y K q1 q2 r1 r2 : Int, (dot a b (2 * x + 1) (2 * y + 1) + e = 2 * X + 1) ∧ (dot c d (2 * x + 1) (2 * y + 1) + f = 2 * Y + 1) ∧ (0 ≤ K ∧ K ≤ 3) ∧ dot a b (outX k) (outY k) = outX K ∧ dot c d (outX k) (outY k) = outY K
      ∧ Good a b c d e f (c1x x k) (c1y y k) q1 q2 ∧ Good a b c d e f (c2x x k) (c2y y k) r1 r2 ∧ (-4000000 ≤ X ∧ X ≤ 4000000) ∧ (-4000000 ≤ Y ∧ Y ≤ 4000000) ∧ Match X Y K q1 q2 r1 r2 := by
  have hb : 0 ≤ k ∧ k ≤ 3 ∧ -1000000 ≤ x ∧ x ≤ 1000000 ∧ -1000000 ≤ y ∧ y ≤ 1000000 := by simpa [triB] using h3
  obtain ⟨k0, k3, x1, x2, y1, y2⟩ := hb
  have hk : k = 0 ∨ k = 1 ∨ k = 2 ∨ k = 3 := by omega
  have h := h1
  simp [mapB, unitB, evenB] at h
  obtain ⟨⟨hkind, e1, e2, e3⟩, f1, f2, f3⟩ := h
  obtain ⟨E, rfl⟩ : ∃ E, e = 2 * E := ⟨e / 2, by omega⟩
  obtain ⟨F, rfl⟩ : ∃ F, f = 2 * F := ⟨f / 2, by omega⟩
  clear h1 h3
  rcases hkind with ⟨⟨⟨ha, hb⟩, hc⟩, hd⟩ | ⟨⟨⟨ha, hb⟩, hc⟩, hd⟩
  · subst hb hc
    rcases ha with rfl | rfl <;> rcases hd with rfl | rfl <;> rcases hk with rfl | rfl | rfl | rfl
    · refine ⟨x + E, y + F, 0, _, _, _, _, ?_, ?_, by omega, ?_, ?_, ⟨⟨rfl, rfl⟩, ?_, ?_⟩, ⟨⟨rfl, rfl⟩, ?_, ?_⟩, by omega, by omega, ?_⟩ <;> simp [dot, outX, outY, c1x, c1y, c2x, c2y, stX, stY, Match] <;> omega
    · refine ⟨x + E, y + F, 1, _, _, _, _, ?_, ?_, by omega, ?_, ?_, ⟨⟨rfl, rfl⟩, ?_, ?_⟩, ⟨⟨rfl, rfl⟩, ?_, ?_⟩, by omega, by omega, ?_⟩ <;> simp [dot, outX, outY, c1x, c1y, c2x, c2y, stX, stY, Match] <;> omega
    · refine ⟨x + E, y + F, 2, _, _, _, _, ?_, ?_, by omega, ?_, ?_, ⟨⟨rfl, rfl⟩, ?_, ?_⟩, ⟨⟨rfl, rfl⟩, ?_, ?_⟩, by omega, by omega, ?_⟩ <;> simp [dot, outX, outY, c1x, c1y, c2x, c2y, stX, stY, Match] <;> omega
    · refine ⟨x + E, y + F, 3, _, _, _, _, ?_, ?_, by omega, ?_, ?_, ⟨⟨rfl, rfl⟩, ?_, ?_⟩, ⟨⟨rfl, rfl⟩, ?_, ?_⟩, by omega, by omega, ?_⟩ <;> simp [dot, outX, outY, c1x, c1y, c2x, c2y, stX, stY, Match] <;> omega
    · refine ⟨x + E, -y - 1 + F, 2, _, _, _, _, ?_, ?_, by omega, ?_, ?_, ⟨⟨rfl, rfl⟩, ?_, ?_⟩, ⟨⟨rfl, rfl⟩, ?_, ?_⟩, by omega, by omega, ?_⟩ <;> simp [dot, outX, outY, c1x, c1y, c2x, c2y, stX, stY, Match] <;> omega
    · refine ⟨x + E, -y - 1 + F, 1, _, _, _, _, ?_, ?_, by omega, ?_, ?_, ⟨⟨rfl, rfl⟩, ?_, ?_⟩, ⟨⟨rfl, rfl⟩, ?_, ?_⟩, by omega, by omega, ?_⟩ <;> simp [dot, outX, outY, c1x, c1y, c2x, c2y, stX, stY, Match] <;> omega
    · refine ⟨x + E, -y - 1 + F, 0, _, _, _, _, ?_, ?_, by omega, ?_, ?_, ⟨⟨rfl, rfl⟩, ?_, ?_⟩, ⟨⟨rfl, rfl⟩, ?_, ?_⟩, by omega, by omega, ?_⟩ <;> simp [dot, outX, outY, c1x, c1y, c2x, c2y, stX, stY, Match] <;> omega
    · refine ⟨x + E, -y - 1 + F, 3, _, _, _, _, ?_, ?_, by omega, ?_, ?_, ⟨⟨rfl, rfl⟩, ?_, ?_⟩, ⟨⟨rfl, rfl⟩, ?_, ?_⟩, by omega, by omega, ?_⟩ <;> simp [dot, outX, outY, c1x, c1y, c2x, c2y, stX, stY, Match] <;> omega
    · refine ⟨-x - 1 + E, y + F, 0, _, _, _, _, ?_, ?_, by omega, ?_, ?_, ⟨⟨rfl, rfl⟩, ?_, ?_⟩, ⟨⟨rfl, rfl⟩, ?_, ?_⟩, by omega, by omega, ?_⟩ <;> simp [dot, outX, outY, c1x, c1y, c2x, c2y, stX, stY, Match] <;> omega
    · refine ⟨-x - 1 + E, y + F, 3, _, _, _, _, ?_, ?_, by omega, ?_, ?_, ⟨⟨rfl, rfl⟩, ?_, ?_⟩, ⟨⟨rfl, rfl⟩, ?_, ?_⟩, by omega, by omega, ?_⟩ <;> simp [dot, outX, outY, c1x, c1y, c2x, c2y, stX, stY, Match] <;> omega
    · refine ⟨-x - 1 + E, y + F, 2, _, _, _, _, ?_, ?_, by omega, ?_, ?_, ⟨⟨rfl, rfl⟩, ?_, ?_⟩, ⟨⟨rfl, rfl⟩, ?_, ?_⟩, by omega, by omega, ?_⟩ <;> simp [dot, outX, outY, c1x, c1y, c2x, c2y, stX, stY, Match] <;> omega
    · refine ⟨-x - 1 + E, y + F, 1, _, _, _, _, ?_, ?_, by omega, ?_, ?_, ⟨⟨rfl, rfl⟩, ?_, ?_⟩, ⟨⟨rfl, rfl⟩, ?_, ?_⟩, by omega, by omega, ?_⟩ <;> simp [dot, outX, outY, c1x, c1y, c2x, c2y, stX, stY, Match] <;> omega
    · refine ⟨-x - 1 + E, -y - 1 + F, 2, _, _, _, _, ?_, ?_, by omega, ?_, ?_, ⟨⟨rfl, rfl⟩, ?_, ?_⟩, ⟨⟨rfl, rfl⟩, ?_, ?_⟩, by omega, by omega, ?_⟩ <;> simp [dot, outX, outY, c1x, c1y, c2x, c2y, stX, stY, Match] <;> omega
    · refine ⟨-x - 1 + E, -y - 1 + F, 3, _, _, _, _, ?_, ?_, by omega, ?_, ?_, ⟨⟨rfl, rfl⟩, ?_, ?_⟩, ⟨⟨rfl, rfl⟩, ?_, ?_⟩, by omega, by omega, ?_⟩ <;> simp [dot, outX, outY, c1x, c1y, c2x, c2y, stX, stY, Match] <;> omega
    · refine ⟨-x - 1 + E, -y - 1 + F, 0, _, _, _, _, ?_, ?_, by omega, ?_, ?_, ⟨⟨rfl, rfl⟩, ?_, ?_⟩, ⟨⟨rfl, rfl⟩, ?_, ?_⟩, by omega, by omega, ?_⟩ <;> simp [dot, outX, outY, c1x, c1y, c2x, c2y, stX, stY, Match] <;> omega
    · refine ⟨-x - 1 + E, -y - 1 + F, 1, _, _, _, _, ?_, ?_, by omega, ?_, ?_, ⟨⟨rfl, rfl⟩, ?_, ?_⟩, ⟨⟨rfl, rfl⟩, ?_, ?_⟩, by omega, by omega, ?_⟩ <;> simp [dot, outX, outY, c1x, c1y, c2x, c2y, stX, stY, Match] <;> omega
  · subst ha hd
    rcases hb with rfl | rfl <;> rcases hc with rfl | rfl <;> rcases hk with rfl | rfl | rfl | rfl
    · refine ⟨y + E, x + F, 3, _, _, _, _, ?_, ?_, by omega, ?_, ?_, ⟨⟨rfl, rfl⟩, ?_, ?_⟩, ⟨⟨rfl, rfl⟩, ?_, ?_⟩, by omega, by omega, ?_⟩ <;> simp [dot, outX, outY, c1x, c1y, c2x, c2y, stX, stY, Match] <;> omega
    · refine ⟨y + E, x + F, 2, _, _, _, _, ?_, ?_, by omega, ?_, ?_, ⟨⟨rfl, rfl⟩, ?_, ?_⟩, ⟨⟨rfl, rfl⟩, ?_, ?_⟩, by omega, by omega, ?_⟩ <;> simp [dot, outX, outY, c1x, c1y, c2x, c2y, stX, stY, Match] <;> omega
    · refine ⟨y + E, x + F, 1, _, _, _, _, ?_, ?_, by omega, ?_, ?_, ⟨⟨rfl, rfl⟩, ?_, ?_⟩, ⟨⟨rfl, rfl⟩, ?_, ?_⟩, by omega, by omega, ?_⟩ <;> simp [dot, outX, outY, c1x, c1y, c2x, c2y, stX, stY, Match] <;> omega
    · refine ⟨y + E, x + F, 0, _, _, _, _, ?_, ?_, by omega, ?_, ?_, ⟨⟨rfl, rfl⟩, ?_, ?_⟩, ⟨⟨rfl, rfl⟩, ?_, ?_⟩, by omega, by omega, ?_⟩ <;> simp [dot, outX, outY, c1x, c1y, c2x, c2y, stX, stY, Match] <;> omega
    · refine ⟨y + E, -x - 1 + F, 3, _, _, _, _, ?_, ?_, by omega, ?_, ?_, ⟨⟨rfl, rfl⟩, ?_, ?_⟩, ⟨⟨rfl, rfl⟩, ?_, ?_⟩, by omega, by omega, ?_⟩ <;> simp [dot, outX, outY, c1x, c1y, c2x, c2y, stX, stY, Match] <;> omega
    · refine ⟨y + E, -x - 1 + F, 0, _, _, _, _, ?_, ?_, by omega, ?_, ?_, ⟨⟨rfl, rfl⟩, ?_, ?_⟩, ⟨⟨rfl, rfl⟩, ?_, ?_⟩, by omega, by omega, ?_⟩ <;> simp [dot, outX, outY, c1x, c1y, c2x, c2y, stX, stY, Match] <;> omega
    · refine ⟨y + E, -x - 1 + F, 1, _, _, _, _, ?_, ?_, by omega, ?_, ?_, ⟨⟨rfl, rfl⟩, ?_, ?_⟩, ⟨⟨rfl, rfl⟩, ?_, ?_⟩, by omega, by omega, ?_⟩ <;> simp [dot, outX, outY, c1x, c1y, c2x, c2y, stX, stY, Match] <;> omega
    · refine ⟨y + E, -x - 1 + F, 2, _, _, _, _, ?_, ?_, by omega, ?_, ?_, ⟨⟨rfl, rfl⟩, ?_, ?_⟩, ⟨⟨rfl, rfl⟩, ?_, ?_⟩, by omega, by omega, ?_⟩ <;> simp [dot, outX, outY, c1x, c1y, c2x, c2y, stX, stY, Match] <;> omega
    · refine ⟨-y - 1 + E, x + F, 1, _, _, _, _, ?_, ?_, by omega, ?_, ?_, ⟨⟨rfl, rfl⟩, ?_, ?_⟩, ⟨⟨rfl, rfl⟩, ?_, ?_⟩, by omega, by omega, ?_⟩ <;> simp [dot, outX, outY, c1x, c1y, c2x, c2y, stX, stY, Match] <;> omega
    · refine ⟨-y - 1 + E, x + F, 2, _, _, _, _, ?_, ?_, by omega, ?_, ?_, ⟨⟨rfl, rfl⟩, ?_, ?_⟩, ⟨⟨rfl, rfl⟩, ?_, ?_⟩, by omega, by omega, ?_⟩ <;> simp [dot, outX, outY, c1x, c1y, c2x, c2y, stX, stY, Match] <;> omega
    · refine ⟨-y - 1 + E, x + F, 3, _, _, _, _, ?_, ?_, by omega, ?_, ?_, ⟨⟨rfl, rfl⟩, ?_, ?_⟩, ⟨⟨rfl, rfl⟩, ?_, ?_⟩, by omega, by omega, ?_⟩ <;> simp [dot, outX, outY, c1x, c1y, c2x, c2y, stX, stY, Match] <;> omega
    · refine ⟨-y - 1 + E, x + F, 0, _, _, _, _, ?_, ?_, by omega, ?_, ?_, ⟨⟨rfl, rfl⟩, ?_, ?_⟩, ⟨⟨rfl, rfl⟩, ?_, ?_⟩, by omega, by omega, ?_⟩ <;> simp [dot, outX, outY, c1x, c1y, c2x, c2y, stX, stY, Match] <;> omega
    · refine ⟨-y - 1 + E, -x - 1 + F, 1, _, _, _, _, ?_, ?_, by omega, ?_, ?_, ⟨⟨rfl, rfl⟩, ?_, ?_⟩, ⟨⟨rfl, rfl⟩, ?_, ?_⟩, by omega, by omega, ?_⟩ <;> simp [dot, outX, outY, c1x, c1y, c2x, c2y, stX, stY, Match] <;> omega
    · refine ⟨-y - 1 + E, -x - 1 + F, 0, _, _, _, _, ?_, ?_, by omega, ?_, ?_, ⟨⟨rfl, rfl⟩, ?_, ?_⟩, ⟨⟨rfl, rfl⟩, ?_, ?_⟩, by omega, by omega, ?_⟩ <;> simp [dot, outX, outY, c1x, c1y, c2x, c2y, stX, stY, Match] <;> omega
    · refine ⟨-y - 1 + E, -x - 1 + F, 3, _, _, _, _, ?_, ?_, by omega, ?_, ?_, ⟨⟨rfl, rfl⟩, ?_, ?_⟩, ⟨⟨rfl, rfl⟩, ?_, ?_⟩, by omega, by omega, ?_⟩ <;> simp [dot, outX, outY, c1x, c1y, c2x, c2y, stX, stY, Match] <;> omega
    · refine ⟨-y - 1 + E, -x - 1 + F, 2, _, _, _, _, ?_, ?_, by omega, ?_, ?_, ⟨⟨rfl, rfl⟩, ?_, ?_⟩, ⟨⟨rfl, rfl⟩, ?_, ?_⟩, by omega, by omega, ?_⟩ <;> simp [dot, outX, outY, c1x, c1y, c2x, c2y, stX, stY, Match] <;> omega

end Go.Proofs.YtfpfgfbkbpgolaaDoor
