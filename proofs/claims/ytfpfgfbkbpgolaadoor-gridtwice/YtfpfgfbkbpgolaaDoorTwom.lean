/- Mirrored twice, and what is across: the numbers. -/
import Derived.Test.YtfpfgfbkbpgolaaDoorAcrm
import Derived.Test.YtfpfgfbkbpgolaaDoorGrpm
import Derived.Test.YtfpfgfbkbpgolaaDoorSidx
namespace Go.Proofs.YtfpfgfbkbpgolaaDoor
open Go.RowKit

/-- Where the mirror at a line brings a triangle. -/
def mvX (v c x y : Int) : Int := if v = 0 then c - x - 1 else if v = 1 then x else if v = 2 then c / 2 - y - 1 else y + c / 2
def mvY (v c x y : Int) : Int := if v = 0 then y else if v = 1 then c - y - 1 else if v = 2 then c / 2 - x - 1 else x - c / 2
def mvK (v k : Int) : Int := if v = 0 then (4 - k) % 4 else if v = 1 then (6 - k) % 4 else if v = 2 then (5 - k) % 4 else (3 - k) % 4
/-- The three neighbours of a triangle. -/
def nbX (j x k : Int) : Int := if j = 1 then x + outX k else x
def nbY (j y k : Int) : Int := if j = 1 then y + outY k else y
def nbK (j k : Int) : Int := if j = 0 then (k + 3) % 4 else if j = 1 then (k + 2) % 4 else (k + 1) % 4

theorem mvK_bd (v k : Int) : 0 ≤ mvK v k ∧ mvK v k ≤ 3 := by
  unfold mvK
  split <;> (try split) <;> (try split) <;> omega
theorem nbK_bd (j k : Int) : 0 ≤ nbK j k ∧ nbK j k ≤ 3 := by
  unfold nbK
  split <;> (try split) <;> omega
theorem mvX_bd {v c x y B : Int} (hc : -2000 ≤ c ∧ c ≤ 2000) (hx : -B ≤ x ∧ x ≤ B) (hy : -B ≤ y ∧ y ≤ B) : -(B + 2001) ≤ mvX v c x y ∧ mvX v c x y ≤ B + 2001 := by
  unfold mvX
  split <;> (try split) <;> (try split) <;> omega
theorem mvY_bd {v c x y B : Int} (hc : -2000 ≤ c ∧ c ≤ 2000) (hx : -B ≤ x ∧ x ≤ B) (hy : -B ≤ y ∧ y ≤ B) : -(B + 2001) ≤ mvY v c x y ∧ mvY v c x y ≤ B + 2001 := by
  unfold mvY
  split <;> (try split) <;> (try split) <;> omega
theorem nbX_bd (j x k : Int) : x - 1 ≤ nbX j x k ∧ nbX j x k ≤ x + 1 := by
  have := outX_bd k
  unfold nbX
  split <;> omega
theorem nbY_bd (j y k : Int) : y - 1 ≤ nbY j y k ∧ nbY j y k ≤ y + 1 := by
  have := outY_bd k
  unfold nbY
  split <;> omega

theorem mv_twice {v c x y k : Int} (hv : 0 ≤ v ∧ v ≤ 3) (hk : 0 ≤ k ∧ k ≤ 3) :
    mvX v c (mvX v c x y) (mvY v c x y) = x ∧ mvY v c (mvX v c x y) (mvY v c x y) = y ∧ mvK v (mvK v k) = k := by
  have h : v = 0 ∨ v = 1 ∨ v = 2 ∨ v = 3 := by omega
  rcases h with rfl | rfl | rfl | rfl <;> simp [mvX, mvY, mvK] <;> omega

theorem mv_mirror {v c x y k : Int} (hv : 0 ≤ v ∧ v ≤ 3) (hc : c % 2 = 0) (hk : 0 ≤ k ∧ k ≤ 3) :
    MV (mA v) (mB v) (mB v) (mD v) (mE v c) (mF v c) x y k (mvX v c x y) (mvY v c x y) (mvK v k) := by
  have h : v = 0 ∨ v = 1 ∨ v = 2 ∨ v = 3 := by omega
  have h2 : k = 0 ∨ k = 1 ∨ k = 2 ∨ k = 3 := by omega
  rcases h with rfl | rfl | rfl | rfl <;> rcases h2 with rfl | rfl | rfl | rfl <;> simp [MV, dot, mA, mB, mD, mE, mF, mvX, mvY, mvK, outX, outY] <;> omega

theorem side_twice {v c x y k : Int} (hv : 0 ≤ v ∧ v ≤ 3) (hc : c % 2 = 0) (hk : 0 ≤ k ∧ k ≤ 3) :
    sideN v c (mvX v c x y) (mvY v c x y) (mvK v k) = -(sideN v c x y k) := by
  have h : v = 0 ∨ v = 1 ∨ v = 2 ∨ v = 3 := by omega
  have h2 : k = 0 ∨ k = 1 ∨ k = 2 ∨ k = 3 := by omega
  rcases h with rfl | rfl | rfl | rfl <;> rcases h2 with rfl | rfl | rfl | rfl <;> simp [sideN, alongOf, c1x, c1y, c2x, c2y, stX, stY, mvX, mvY, mvK] <;> split <;> split <;> omega
theorem side_not (v c x y k : Int) : sideN v c x y k = 1 ∨ sideN v c x y k = -1 := by
  unfold sideN
  split <;> simp

theorem nb_image {v c x y k j : Int} (hv : 0 ≤ v ∧ v ≤ 3) (hk : 0 ≤ k ∧ k ≤ 3) (hj : 0 ≤ j ∧ j ≤ 2) :
    mvX v c (nbX j x k) (nbY j y k) = nbX (2 - j) (mvX v c x y) (mvK v k) ∧ mvY v c (nbX j x k) (nbY j y k) = nbY (2 - j) (mvY v c x y) (mvK v k) ∧ mvK v (nbK j k) = nbK (2 - j) (mvK v k) := by
  have h : v = 0 ∨ v = 1 ∨ v = 2 ∨ v = 3 := by omega
  have h2 : k = 0 ∨ k = 1 ∨ k = 2 ∨ k = 3 := by omega
  have h3 : j = 0 ∨ j = 1 ∨ j = 2 := by omega
  rcases h with rfl | rfl | rfl | rfl <;> rcases h2 with rfl | rfl | rfl | rfl <;> rcases h3 with rfl | rfl | rfl <;> simp [nbX, nbY, nbK, mvX, mvY, mvK, outX, outY] <;> omega

theorem nb_not {x y k j : Int} (_hk : 0 ≤ k ∧ k ≤ 3) (hj : 0 ≤ j ∧ j ≤ 2) : ¬ (nbX j x k = x ∧ nbY j y k = y ∧ nbK j k = k) := by
  have h3 : j = 0 ∨ j = 1 ∨ j = 2 := by omega
  rcases h3 with rfl | rfl | rfl <;> simp [nbX, nbY, nbK] <;> omega

theorem own_0 (x y k : Int) : hasB x y k (ue0 x y k) (ue1 x y k) (ue2 x y k) (ue3 x y k) = true := by simp [hasB, e0, sameB]
theorem nb_has_0 {x y k : Int} (hk : 0 ≤ k ∧ k ≤ 3) : hasB (nbX 0 x k) (nbY 0 y k) (nbK 0 k) (ue0 x y k) (ue1 x y k) (ue2 x y k) (ue3 x y k) = true := by
  have h2 : k = 0 ∨ k = 1 ∨ k = 2 ∨ k = 3 := by omega
  have h : e0 x y k (ue0 x y k) (ue1 x y k) (ue2 x y k) (ue3 x y k) = true := by simp [e0, sameB]
  rw [hasB_or]
  rcases h2 with rfl | rfl | rfl | rfl <;> simp only [e0_0, e0_1, e0_2, e0_3] at h <;> simp [nbX, nbY, nbK, e0_0, e0_1, e0_2, e0_3, e1_0, e1_1, e1_2, e1_3, e2_0, e2_1, e2_2, e2_3] <;> omega
theorem nb_ac_0 {x y k : Int} (hk : 0 ≤ k ∧ k ≤ 3) : acX x y k (ue0 x y k) (ue1 x y k) (ue2 x y k) (ue3 x y k) = nbX 0 x k ∧ acY x y k (ue0 x y k) (ue1 x y k) (ue2 x y k) (ue3 x y k) = nbY 0 y k ∧ acK x y k (ue0 x y k) (ue1 x y k) (ue2 x y k) (ue3 x y k) = nbK 0 k := by
  have ho : Oth x y k (ue0 x y k) (ue1 x y k) (ue2 x y k) (ue3 x y k) (nbX 0 x k - x) (nbY 0 y k - y) (nbK 0 k) := by
    refine ⟨?_, ?_⟩
    · rw [show x + (nbX 0 x k - x) = nbX 0 x k by omega, show y + (nbY 0 y k - y) = nbY 0 y k by omega]
      exact nb_has_0 hk
    · intro hh
      exact nb_not (x := x) (y := y) (k := k) (j := 0) hk (by omega) (by omega)
  have := across_is x y k (ue0 x y k) (ue1 x y k) (ue2 x y k) (ue3 x y k) _ _ _ hk.1 hk.2 (nbK_bd _ _).1 (nbK_bd _ _).2 (own_0 x y k) ho
  omega
theorem nb_back_0 {x y k : Int} (hk : 0 ≤ k ∧ k ≤ 3) : acX (nbX 0 x k) (nbY 0 y k) (nbK 0 k) (ue0 x y k) (ue1 x y k) (ue2 x y k) (ue3 x y k) = x ∧ acY (nbX 0 x k) (nbY 0 y k) (nbK 0 k) (ue0 x y k) (ue1 x y k) (ue2 x y k) (ue3 x y k) = y ∧ acK (nbX 0 x k) (nbY 0 y k) (nbK 0 k) (ue0 x y k) (ue1 x y k) (ue2 x y k) (ue3 x y k) = k := by
  have ho : Oth (nbX 0 x k) (nbY 0 y k) (nbK 0 k) (ue0 x y k) (ue1 x y k) (ue2 x y k) (ue3 x y k) (x - nbX 0 x k) (y - nbY 0 y k) k := by
    refine ⟨?_, ?_⟩
    · rw [show nbX 0 x k + (x - nbX 0 x k) = x by omega, show nbY 0 y k + (y - nbY 0 y k) = y by omega]
      exact own_0 x y k
    · intro hh
      exact nb_not (x := x) (y := y) (k := k) (j := 0) hk (by omega) (by omega)
  have := across_is (nbX 0 x k) (nbY 0 y k) (nbK 0 k) (ue0 x y k) (ue1 x y k) (ue2 x y k) (ue3 x y k) _ _ _ (nbK_bd _ _).1 (nbK_bd _ _).2 hk.1 hk.2 (nb_has_0 hk) ho
  omega

theorem own_1 (x y k : Int) : hasB x y k (ue4 x y k) (ue5 x y k) (ue6 x y k) (ue7 x y k) = true := by simp [hasB, e1, sameB]
theorem nb_has_1 {x y k : Int} (hk : 0 ≤ k ∧ k ≤ 3) : hasB (nbX 1 x k) (nbY 1 y k) (nbK 1 k) (ue4 x y k) (ue5 x y k) (ue6 x y k) (ue7 x y k) = true := by
  have h2 : k = 0 ∨ k = 1 ∨ k = 2 ∨ k = 3 := by omega
  have h : e1 x y k (ue4 x y k) (ue5 x y k) (ue6 x y k) (ue7 x y k) = true := by simp [e1, sameB]
  rw [hasB_or]
  rcases h2 with rfl | rfl | rfl | rfl <;> simp only [e1_0, e1_1, e1_2, e1_3] at h <;> simp [nbX, nbY, nbK, outX, outY, e0_0, e0_1, e0_2, e0_3, e1_0, e1_1, e1_2, e1_3, e2_0, e2_1, e2_2, e2_3] <;> omega
theorem nb_ac_1 {x y k : Int} (hk : 0 ≤ k ∧ k ≤ 3) : acX x y k (ue4 x y k) (ue5 x y k) (ue6 x y k) (ue7 x y k) = nbX 1 x k ∧ acY x y k (ue4 x y k) (ue5 x y k) (ue6 x y k) (ue7 x y k) = nbY 1 y k ∧ acK x y k (ue4 x y k) (ue5 x y k) (ue6 x y k) (ue7 x y k) = nbK 1 k := by
  have ho : Oth x y k (ue4 x y k) (ue5 x y k) (ue6 x y k) (ue7 x y k) (nbX 1 x k - x) (nbY 1 y k - y) (nbK 1 k) := by
    refine ⟨?_, ?_⟩
    · rw [show x + (nbX 1 x k - x) = nbX 1 x k by omega, show y + (nbY 1 y k - y) = nbY 1 y k by omega]
      exact nb_has_1 hk
    · intro hh
      exact nb_not (x := x) (y := y) (k := k) (j := 1) hk (by omega) (by omega)
  have := across_is x y k (ue4 x y k) (ue5 x y k) (ue6 x y k) (ue7 x y k) _ _ _ hk.1 hk.2 (nbK_bd _ _).1 (nbK_bd _ _).2 (own_1 x y k) ho
  omega
theorem nb_back_1 {x y k : Int} (hk : 0 ≤ k ∧ k ≤ 3) : acX (nbX 1 x k) (nbY 1 y k) (nbK 1 k) (ue4 x y k) (ue5 x y k) (ue6 x y k) (ue7 x y k) = x ∧ acY (nbX 1 x k) (nbY 1 y k) (nbK 1 k) (ue4 x y k) (ue5 x y k) (ue6 x y k) (ue7 x y k) = y ∧ acK (nbX 1 x k) (nbY 1 y k) (nbK 1 k) (ue4 x y k) (ue5 x y k) (ue6 x y k) (ue7 x y k) = k := by
  have ho : Oth (nbX 1 x k) (nbY 1 y k) (nbK 1 k) (ue4 x y k) (ue5 x y k) (ue6 x y k) (ue7 x y k) (x - nbX 1 x k) (y - nbY 1 y k) k := by
    refine ⟨?_, ?_⟩
    · rw [show nbX 1 x k + (x - nbX 1 x k) = x by omega, show nbY 1 y k + (y - nbY 1 y k) = y by omega]
      exact own_1 x y k
    · intro hh
      exact nb_not (x := x) (y := y) (k := k) (j := 1) hk (by omega) (by omega)
  have := across_is (nbX 1 x k) (nbY 1 y k) (nbK 1 k) (ue4 x y k) (ue5 x y k) (ue6 x y k) (ue7 x y k) _ _ _ (nbK_bd _ _).1 (nbK_bd _ _).2 hk.1 hk.2 (nb_has_1 hk) ho
  omega

theorem own_2 (x y k : Int) : hasB x y k (ue8 x y k) (ue9 x y k) (ue10 x y k) (ue11 x y k) = true := by simp [hasB, e2, sameB]
theorem nb_has_2 {x y k : Int} (hk : 0 ≤ k ∧ k ≤ 3) : hasB (nbX 2 x k) (nbY 2 y k) (nbK 2 k) (ue8 x y k) (ue9 x y k) (ue10 x y k) (ue11 x y k) = true := by
  have h2 : k = 0 ∨ k = 1 ∨ k = 2 ∨ k = 3 := by omega
  have h : e2 x y k (ue8 x y k) (ue9 x y k) (ue10 x y k) (ue11 x y k) = true := by simp [e2, sameB]
  rw [hasB_or]
  rcases h2 with rfl | rfl | rfl | rfl <;> simp only [e2_0, e2_1, e2_2, e2_3] at h <;> simp [nbX, nbY, nbK, e0_0, e0_1, e0_2, e0_3, e1_0, e1_1, e1_2, e1_3, e2_0, e2_1, e2_2, e2_3] <;> omega
theorem nb_ac_2 {x y k : Int} (hk : 0 ≤ k ∧ k ≤ 3) : acX x y k (ue8 x y k) (ue9 x y k) (ue10 x y k) (ue11 x y k) = nbX 2 x k ∧ acY x y k (ue8 x y k) (ue9 x y k) (ue10 x y k) (ue11 x y k) = nbY 2 y k ∧ acK x y k (ue8 x y k) (ue9 x y k) (ue10 x y k) (ue11 x y k) = nbK 2 k := by
  have ho : Oth x y k (ue8 x y k) (ue9 x y k) (ue10 x y k) (ue11 x y k) (nbX 2 x k - x) (nbY 2 y k - y) (nbK 2 k) := by
    refine ⟨?_, ?_⟩
    · rw [show x + (nbX 2 x k - x) = nbX 2 x k by omega, show y + (nbY 2 y k - y) = nbY 2 y k by omega]
      exact nb_has_2 hk
    · intro hh
      exact nb_not (x := x) (y := y) (k := k) (j := 2) hk (by omega) (by omega)
  have := across_is x y k (ue8 x y k) (ue9 x y k) (ue10 x y k) (ue11 x y k) _ _ _ hk.1 hk.2 (nbK_bd _ _).1 (nbK_bd _ _).2 (own_2 x y k) ho
  omega
theorem nb_back_2 {x y k : Int} (hk : 0 ≤ k ∧ k ≤ 3) : acX (nbX 2 x k) (nbY 2 y k) (nbK 2 k) (ue8 x y k) (ue9 x y k) (ue10 x y k) (ue11 x y k) = x ∧ acY (nbX 2 x k) (nbY 2 y k) (nbK 2 k) (ue8 x y k) (ue9 x y k) (ue10 x y k) (ue11 x y k) = y ∧ acK (nbX 2 x k) (nbY 2 y k) (nbK 2 k) (ue8 x y k) (ue9 x y k) (ue10 x y k) (ue11 x y k) = k := by
  have ho : Oth (nbX 2 x k) (nbY 2 y k) (nbK 2 k) (ue8 x y k) (ue9 x y k) (ue10 x y k) (ue11 x y k) (x - nbX 2 x k) (y - nbY 2 y k) k := by
    refine ⟨?_, ?_⟩
    · rw [show nbX 2 x k + (x - nbX 2 x k) = x by omega, show nbY 2 y k + (y - nbY 2 y k) = y by omega]
      exact own_2 x y k
    · intro hh
      exact nb_not (x := x) (y := y) (k := k) (j := 2) hk (by omega) (by omega)
  have := across_is (nbX 2 x k) (nbY 2 y k) (nbK 2 k) (ue8 x y k) (ue9 x y k) (ue10 x y k) (ue11 x y k) _ _ _ (nbK_bd _ _).1 (nbK_bd _ _).2 hk.1 hk.2 (nb_has_2 hk) ho
  omega

end Go.Proofs.YtfpfgfbkbpgolaaDoor
