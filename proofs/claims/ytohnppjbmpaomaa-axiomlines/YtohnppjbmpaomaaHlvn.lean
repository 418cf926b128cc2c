/- Halves: the code and the reference answer alike. -/
import Derived.Test.YtohnppjbmpaomaaHlvm
import Derived.Test.YtohnppjbmpaomaaCmps
namespace Go.Proofs.Ytohnppjbmpaomaa
open Go.RowKit

theorem same3_no {x y z X Y Z : Int} (h : ¬ (x = X ∧ y = Y ∧ z = Z)) : same3 x y z X Y Z = false := decide_eq_false h
theorem same3_yes {x y z X Y Z : Int} (h : x = X ∧ y = Y ∧ z = Z) : same3 x y z X Y Z = true := decide_eq_true h
theorem wl_no {x y : Int} (h : ¬ (x = 0 ∧ y = 0)) : wl x y = false := by
  cases e : wl x y
  · rfl
  · simp [wl] at e
    exact absurd e h
theorem wl_yes {x y : Int} (h : x = 0 ∧ y = 0) : wl x y = true := by simp [wl, h.1, h.2]
theorem lsS_asym {a b c A B C : Int} (h : lsS a b c A B C = true) : lsS A B C a b c = false := by
  unfold lsS at *
  by_cases h1 : a = A
  · subst h1
    by_cases h2 : b = B
    · subst h2
      simp at h ⊢
      omega
    · have h3 : ¬ B = b := fun e => h2 e.symm
      simp [h2, h3] at h ⊢
      omega
  · have h3 : ¬ A = a := fun e => h1 e.symm
    simp [h1, h3] at h ⊢
    omega
theorem lsS_tot {a b c A B C : Int} (h : lsS a b c A B C = false) (k : lsS A B C a b c = false) : a = A ∧ b = B ∧ c = C := by
  unfold lsS at *
  by_cases h1 : a = A
  · subst h1
    by_cases h2 : b = B
    · subst h2
      simp at h k
      exact ⟨rfl, rfl, by omega⟩
    · have h3 : ¬ B = b := fun e => h2 e.symm
      simp [h2, h3] at h k
      omega
  · have h3 : ¬ A = a := fun e => h1 e.symm
    simp [h1, h3] at h k
    omega
theorem sq_pos {a b : Int} (h : ¬ (a = 0 ∧ b = 0)) : 0 < a * a + b * b := by
  have h1 := sq_nn a
  have h2 := sq_nn b
  rcases Int.lt_or_le 0 (a * a + b * b) with k | k
  · exact k
  · exfalso
    have e1 : a * a = 0 := by omega
    have e2 : b * b = 0 := by omega
    exact h ⟨by rcases Int.mul_eq_zero.1 e1 with x | x <;> exact x, by rcases Int.mul_eq_zero.1 e2 with x | x <;> exact x⟩
/-- What two parallels say: all but the sign. -/
theorem par_facts {a b d e : Int} (hl : ¬ (a = 0 ∧ b = 0)) (hm : ¬ (d = 0 ∧ e = 0)) (hp : a * e - b * d = 0) :
    (d * d + e * e) * a = (a * d + b * e) * d ∧ (d * d + e * e) * b = (a * d + b * e) * e ∧ (a * a + b * b) * (d * d + e * e) = (a * d + b * e) * (a * d + b * e) ∧ a * d + b * e ≠ 0 := by
  have h1 : (d * d + e * e) * a = (a * d + b * e) * d := by grind
  have h2 : (d * d + e * e) * b = (a * d + b * e) * e := by grind
  have h3 : (a * a + b * b) * (d * d + e * e) = (a * d + b * e) * (a * d + b * e) := by grind
  refine ⟨h1, h2, h3, fun h => ?_⟩
  have p1 := sq_pos hl
  have p2 := sq_pos hm
  have := Int.mul_pos p1 p2
  rw [h3, h] at this
  omega
theorem nat_sq (s : Int) : (s.natAbs : Int) * (s.natAbs : Int) = s * s := Int.natAbs_mul_self
/-- Two that cross: a fold has a way. -/
theorem cross_way {a b d e k r : Int} (hk : k ≠ 0) (hp : a * e - b * d ≠ 0) : ¬ (k * a + r * d = 0 ∧ k * b + r * e = 0) := fun ⟨h1, h2⟩ => by
  have : k * (a * e - b * d) = 0 := by grind
  rcases Int.mul_eq_zero.1 this with h | h
  · exact hk h
  · exact hp h
/-- The form's one fold between parallels is the code's. -/
theorem par_fold {a b c d e f u v A B C D E F U V : Int} (hu : u ≠ 0) (hv : v ≠ 0) (ha : a = u * A) (hb : b = u * B) (hc : c = u * C) (hd : d = v * D) (he : e = v * E) (hf : f = v * F) (hl : ¬ (A = 0 ∧ B = 0)) (hm : ¬ (D = 0 ∧ E = 0)) (hp : A * E - B * D = 0)
    (hUV : (U = A ∧ V = D ∧ A ≠ 0) ∨ (U = B ∧ V = E ∧ A = 0)) :
    frm ((d * d + e * e) * a + (a * d + b * e) * d) ((d * d + e * e) * b + (a * d + b * e) * e) ((d * d + e * e) * c + (a * d + b * e) * f) = frm (2 * A * V) (2 * B * V) (C * V + F * U) ∧ ¬ (2 * A * V = 0 ∧ 2 * B * V = 0) := by
  obtain ⟨q1, q2, q3, q4⟩ := par_facts hl hm hp
  have hU : U ≠ 0 := by
    rcases hUV with ⟨h1, _, h2⟩ | ⟨h1, _, h2⟩
    · rw [h1]; exact h2
    · rw [h1]; exact fun h => hl ⟨h2, h⟩
  have hV : V ≠ 0 := by
    rcases hUV with ⟨_, h1, h2⟩ | ⟨_, h1, h2⟩
    · rw [h1]
      intro h
      apply hm
      refine ⟨h, ?_⟩
      rw [h, Int.mul_zero, Int.sub_zero] at hp
      rcases Int.mul_eq_zero.1 hp with k | k
      · exact absurd k h2
      · exact k
    · rw [h1]
      intro h
      apply hm
      refine ⟨?_, h⟩
      rw [h, Int.mul_zero, Int.zero_sub] at hp
      rcases Int.mul_eq_zero.1 (show B * D = 0 by omega) with k | k
      · exact absurd ⟨h2, k⟩ hl
      · exact k
  have hk : U * (D * D + E * E) = V * (A * D + B * E) := by
    rcases hUV with ⟨h1, h2, _⟩ | ⟨h1, h2, _⟩
    · rw [h1, h2]; grind
    · rw [h1, h2]; grind
  have w2 : ¬ (2 * A * V = 0 ∧ 2 * B * V = 0) := fun ⟨h1, h2⟩ => by
    apply hl
    constructor
    · rcases Int.mul_eq_zero.1 h1 with k | k
      · omega
      · exact absurd k hV
    · rcases Int.mul_eq_zero.1 h2 with k | k
      · omega
      · exact absurd k hV
  have hs : u * v * v * (A * D + B * E) ≠ 0 := by
    intro h
    rcases Int.mul_eq_zero.1 h with k | k
    · rcases Int.mul_eq_zero.1 k with k | k
      · rcases Int.mul_eq_zero.1 k with k | k
        · exact hu k
        · exact hv k
      · exact hv k
    · exact q4 k
  have e1 : U * ((d * d + e * e) * a + (a * d + b * e) * d) = u * v * v * (A * D + B * E) * (2 * A * V) := by subst ha hb hd he; grind
  have e2 : U * ((d * d + e * e) * b + (a * d + b * e) * e) = u * v * v * (A * D + B * E) * (2 * B * V) := by subst ha hb hd he; grind
  have e3 : U * ((d * d + e * e) * c + (a * d + b * e) * f) = u * v * v * (A * D + B * E) * (C * V + F * U) := by subst ha hb hc hd he hf; grind
  have w1 : ¬ ((d * d + e * e) * a + (a * d + b * e) * d = 0 ∧ (d * d + e * e) * b + (a * d + b * e) * e = 0) := fun ⟨h1, h2⟩ => by
    apply w2
    rw [h1, Int.mul_zero] at e1
    rw [h2, Int.mul_zero] at e2
    constructor
    · rcases Int.mul_eq_zero.1 e1.symm with k | k
      · exact absurd k hs
      · exact k
    · rcases Int.mul_eq_zero.1 e2.symm with k | k
      · exact absurd k hs
      · exact k
  exact ⟨frm_like hU hs w1 w2 e1 e2 e3, w2⟩
end Go.Proofs.Ytohnppjbmpaomaa
