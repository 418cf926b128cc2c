/- Maps put together as one likes: the numbers. -/
import Derived.Test.YtfpfgfbkbpgolaaDoorMvex
namespace Go.Proofs.YtfpfgfbkbpgolaaDoor
open Go.RowKit

/-- Which of m things a raw number speaks of. -/
def pick (n m : Int) : Int := (if n < 0 then -(n + 1) else n) % m
theorem pick_bd (n m : Int) (h : 0 < m) : 0 ≤ pick n m ∧ pick n m < m := ⟨Int.emod_nonneg _ (by omega), Int.emod_lt_of_pos _ h⟩

/-- A map brings a triangle to another. -/
def MV (a b c d e f x y k X Y K : Int) : Prop :=
  (dot a b (2 * x + 1) (2 * y + 1) + e = 2 * X + 1 ∧ dot c d (2 * x + 1) (2 * y + 1) + f = 2 * Y + 1) ∧ (0 ≤ K ∧ K ≤ 3) ∧ dot a b (outX k) (outY k) = outX K ∧ dot c d (outX k) (outY k) = outY K

theorem dot_comp (A B a b c d e f p q E : Int) : dot A B (dot a b p q + e) (dot c d p q + f) + E = dot (dot A B a c) (dot A B b d) p q + (dot A B e f + E) := by
  simp only [dot, Int.mul_add, Int.add_mul, Int.mul_assoc]; omega
theorem dot_comp0 (A B a b c d p q : Int) : dot A B (dot a b p q) (dot c d p q) = dot (dot A B a c) (dot A B b d) p q := by
  simp only [dot, Int.mul_add, Int.add_mul, Int.mul_assoc]; omega

theorem mv_after {a b c d e f A B C D E F x y k X Y K X' Y' K' : Int} (h1 : MV a b c d e f x y k X Y K) (h2 : MV A B C D E F X Y K X' Y' K') :
    MV (dot A B a c) (dot A B b d) (dot C D a c) (dot C D b d) (dot A B e f + E) (dot C D e f + F) x y k X' Y' K' := by
  obtain ⟨⟨p1, p2⟩, p3, p4, p5⟩ := h1
  obtain ⟨⟨q1, q2⟩, q3, q4, q5⟩ := h2
  rw [← p1, ← p2] at q1 q2
  rw [← p4, ← p5] at q4 q5
  refine ⟨⟨?_, ?_⟩, q3, ?_, ?_⟩
  · rw [← dot_comp]; exact q1
  · rw [← dot_comp]; exact q2
  · rw [← dot_comp0]; exact q4
  · rw [← dot_comp0]; exact q5

theorem mv_ex {a b c d e f x y k : Int} (h1 : mapB a b c d e f = true) (h3 : triB x y k = true) : ∃ X Y K, MV a b c d e f x y k X Y K := by
  obtain ⟨X, Y, K, _, _, _, _, hX, hY, hK, hKx, hKy, _⟩ := move_data a b c d e f x y k h1 h3
  exact ⟨X, Y, K, ⟨hX, hY⟩, hK, hKx, hKy⟩

theorem map_row {a b c d e f x y M : Int} (h : mapB a b c d e f = true) (h1 : -M ≤ x) (h2 : x ≤ M) (h3 : -M ≤ y) (h4 : y ≤ M) : (-M ≤ dot a b x y ∧ dot a b x y ≤ M) ∧ (-M ≤ dot c d x y ∧ dot c d x y ≤ M) := by
  simp [mapB, unitB, evenB] at h
  obtain ⟨⟨hk, _⟩, _⟩ := h
  rcases hk with ⟨⟨⟨ha, hb⟩, hc⟩, hd⟩ | ⟨⟨⟨ha, hb⟩, hc⟩, hd⟩
  · subst hb hc; rcases ha with rfl | rfl <;> rcases hd with rfl | rfl <;> simp [dot] <;> omega
  · subst ha hd; rcases hb with rfl | rfl <;> rcases hc with rfl | rfl <;> simp [dot] <;> omega

theorem map_after {a b c d e f A B C D E F M : Int} (h : mapB a b c d e f = true) (H : mapB A B C D E F = true) (h1 : -M ≤ e) (h2 : e ≤ M) (h3 : -M ≤ f) (h4 : f ≤ M) (h5 : -4000 ≤ E) (h6 : E ≤ 4000) (h7 : -4000 ≤ F) (h8 : F ≤ 4000) (hM : M ≤ 900000) :
    mapB (dot A B a c) (dot A B b d) (dot C D a c) (dot C D b d) (dot A B e f + E) (dot C D e f + F) = true ∧ (-(M + 4000) ≤ dot A B e f + E ∧ dot A B e f + E ≤ M + 4000) ∧ (-(M + 4000) ≤ dot C D e f + F ∧ dot C D e f + F ≤ M + 4000) := by
  simp [mapB, unitB, evenB] at h H ⊢
  obtain ⟨⟨hk, he1, he2, he3⟩, hf1, hf2, hf3⟩ := h
  obtain ⟨⟨Hk, HE1, HE2, HE3⟩, HF1, HF2, HF3⟩ := H
  rcases hk with ⟨⟨⟨ha, hb⟩, hc⟩, hd⟩ | ⟨⟨⟨ha, hb⟩, hc⟩, hd⟩ <;> rcases Hk with ⟨⟨⟨Ha, Hb⟩, Hc⟩, Hd⟩ | ⟨⟨⟨Ha, Hb⟩, Hc⟩, Hd⟩
  · subst hb hc Hb Hc; rcases ha with rfl | rfl <;> rcases hd with rfl | rfl <;> rcases Ha with rfl | rfl <;> rcases Hd with rfl | rfl <;> simp [dot] <;> omega
  · subst hb hc Ha Hd; rcases ha with rfl | rfl <;> rcases hd with rfl | rfl <;> rcases Hb with rfl | rfl <;> rcases Hc with rfl | rfl <;> simp [dot] <;> omega
  · subst ha hd Hb Hc; rcases hb with rfl | rfl <;> rcases hc with rfl | rfl <;> rcases Ha with rfl | rfl <;> rcases Hd with rfl | rfl <;> simp [dot] <;> omega
  · subst ha hd Ha Hd; rcases hb with rfl | rfl <;> rcases hc with rfl | rfl <;> rcases Hb with rfl | rfl <;> rcases Hc with rfl | rfl <;> simp [dot] <;> omega

theorem mv_back {a b c d e f x y k X Y K : Int} (h : mapB a b c d e f = true) (hk0 : 0 ≤ k) (hk3 : k ≤ 3) (hm : MV a b c d e f x y k X Y K) :
    MV a c b d (-(dot a c e f)) (-(dot b d e f)) X Y K x y k := by
  obtain ⟨⟨p1, p2⟩, ⟨p3, p3'⟩, p4, p5⟩ := hm
  simp [mapB, unitB, evenB] at h
  obtain ⟨⟨hk, _⟩, _⟩ := h
  unfold MV
  rw [← p1, ← p2, ← p4, ← p5]
  rcases hk with ⟨⟨⟨ha, hb⟩, hc⟩, hd⟩ | ⟨⟨⟨ha, hb⟩, hc⟩, hd⟩
  · subst hb hc; rcases ha with rfl | rfl <;> rcases hd with rfl | rfl <;> simp [dot] <;> omega
  · subst ha hd; rcases hb with rfl | rfl <;> rcases hc with rfl | rfl <;> simp [dot] <;> omega

theorem after_back {a b c d e f : Int} (h : mapB a b c d e f = true) :
    (dot a c a c = 1 ∧ dot a c b d = 0 ∧ dot b d a c = 0 ∧ dot b d b d = 1 ∧ dot a c e f + -(dot a c e f) = 0 ∧ dot b d e f + -(dot b d e f) = 0)
    ∧ (dot a b a b = 1 ∧ dot a b c d = 0 ∧ dot c d a b = 0 ∧ dot c d c d = 1 ∧ dot a b (-(dot a c e f)) (-(dot b d e f)) + e = 0 ∧ dot c d (-(dot a c e f)) (-(dot b d e f)) + f = 0) := by
  simp [mapB, unitB, evenB] at h
  obtain ⟨⟨hk, _⟩, _⟩ := h
  rcases hk with ⟨⟨⟨ha, hb⟩, hc⟩, hd⟩ | ⟨⟨⟨ha, hb⟩, hc⟩, hd⟩
  · subst hb hc; rcases ha with rfl | rfl <;> rcases hd with rfl | rfl <;> simp [dot] <;> omega
  · subst ha hd; rcases hb with rfl | rfl <;> rcases hc with rfl | rfl <;> simp [dot] <;> omega

end Go.Proofs.YtfpfgfbkbpgolaaDoor
