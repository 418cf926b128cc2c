/- Of the kinds of a list that goes there are two more of one: the curve's turns. -/
import Derived.Test.YtioajagblphbnaaMath
namespace Go.Proofs.Ytioajagblphbnaa

def vv (H : Nat → Int) (i j : Nat) : Int := if H i < H j then 1 else -1
def Bt (h a b : Int) : Prop := a < h ∧ h < b ∨ b < h ∧ h < a
def uu (b : Nat) (Y H : Nat → Int) (i j : Nat) : Int :=
  if Y i < Y j then 1 else if Y j < Y i then -1 else if (b + i) % 2 = (b + j) % 2 then (if (H (j - 1) < H i ∧ H i < H j ∨ H j < H i ∧ H i < H (j - 1)) then (if (b + i) % 2 = 0 then -1 else 1) else if (b + i) % 2 = 0 then 1 else -1) else if (b + i) % 2 = 0 then -1 else 1
/-- What lies goes to and fro, and nothing goes through anything; sector 0 is the lowest. -/
structure Zig (n b : Nat) (Y H : Nat → Int) : Prop where
  up : ∀ k, (b + k) % 2 = 0 → Y k < Y (k + 1)
  down : ∀ k, (b + k) % 2 = 1 → Y (k + 1) < Y k
  past : ∀ k j, 1 ≤ j → Bt (Y j) (Y k) (Y (k + 1)) → ¬ Bt (H k) (H (j - 1)) (H j)
  meet : ∀ i j, 1 ≤ i → i < j → j < i + n → (b + i) % 2 = (b + j) % 2 → Y i = Y j → (Bt (H (i - 1)) (H (j - 1)) (H j) ↔ Bt (H i) (H (j - 1)) (H j))
  dis : ∀ i j, i < j → j < i + n → H i ≠ H j
  low : ∀ j, 1 ≤ j → j < n → H 0 < H j
  hrnd : H n = H 0
  yrnd : Y n = Y 0
theorem quarter {a b c d : Int} (h : a = b ∨ c = d) : a * c - a * d - b * c + b * d = 0 := by
  rcases h with rfl | rfl <;> omega
theorem Zig.n1 {n b : Nat} {Y H : Nat → Int} (z : Zig n b Y H) (i j : Nat) (hi : 1 ≤ i) (hij : i + 2 ≤ j) (hj : j ≤ n) : uu b Y H i j * vv H i j - uu b Y H i j * vv H i (j - 1) - uu b Y H (i + 1) j * vv H i j + uu b Y H (i + 1) j * vv H i (j - 1) = 0 := by
  apply quarter
  have d1 := z.dis i j (by omega) (by omega)
  have d2 := z.dis i (j - 1) (by omega) (by omega)
  have hp := z.past i j (by omega)
  have hm := z.meet (i + 1) j (by omega) (by omega) (by omega)
  rw [Nat.add_sub_cancel] at hm
  have hu := z.up i
  have hd := z.down i
  unfold Bt at *
  by_cases hb : H (j - 1) < H i ∧ H i < H j ∨ H j < H i ∧ H i < H (j - 1)
  · left
    have hp' : ¬ (Y i < Y j ∧ Y j < Y (i + 1) ∨ Y (i + 1) < Y j ∧ Y j < Y i) := fun h => hp h hb
    unfold uu
    rw [if_pos hb]
    clear hp d1 d2
    by_cases e : (b + i) % 2 = 0
    · have := hu e
      clear hu hd
      have e1 : ¬ (b + (i + 1)) % 2 = 0 := by omega
      rw [if_pos e, if_neg e1, if_neg e1]
      by_cases ej : (b + j) % 2 = 0
      · rw [if_pos (by omega : (b + i) % 2 = (b + j) % 2), if_neg (by omega : ¬ (b + (i + 1)) % 2 = (b + j) % 2)]
        repeat' split
        all_goals omega
      · rw [if_neg (by omega : ¬ (b + i) % 2 = (b + j) % 2), if_pos (by omega : (b + (i + 1)) % 2 = (b + j) % 2)]
        have hm := hm (by omega)
        repeat' split
        all_goals omega
    · have := hd (by omega)
      clear hu hd
      have e1 : (b + (i + 1)) % 2 = 0 := by omega
      rw [if_neg e, if_pos e1, if_pos e1]
      by_cases ej : (b + j) % 2 = 0
      · rw [if_neg (by omega : ¬ (b + i) % 2 = (b + j) % 2), if_pos (by omega : (b + (i + 1)) % 2 = (b + j) % 2)]
        have hm := hm (by omega)
        repeat' split
        all_goals omega
      · rw [if_pos (by omega : (b + i) % 2 = (b + j) % 2), if_neg (by omega : ¬ (b + (i + 1)) % 2 = (b + j) % 2)]
        repeat' split
        all_goals omega
  · right
    clear hp hm hu hd
    unfold vv
    repeat' split
    all_goals omega
theorem Zig.n2 {n b : Nat} {Y H : Nat → Int} (z : Zig n b Y H) (i j : Nat) (hi : 1 ≤ i) (hij : i < j) (hj : j + 1 ≤ n) : uu b Y H i j * vv H i j - uu b Y H i j * vv H (i - 1) j - uu b Y H i (j + 1) * vv H i j + uu b Y H i (j + 1) * vv H (i - 1) j = 0 := by
  apply quarter
  have d1 := z.dis i j (by omega) (by omega)
  have d2 := z.dis (i - 1) j (by omega) (by omega)
  have hp := z.past j i (by omega)
  have hm := z.meet i (j + 1) (by omega) (by omega) (by omega)
  have hm2 := z.meet i j (by omega) (by omega) (by omega)
  rw [Nat.add_sub_cancel] at hm
  have hu := z.up j
  have hd := z.down j
  unfold Bt at *
  by_cases hb : H (i - 1) < H j ∧ H j < H i ∨ H i < H j ∧ H j < H (i - 1)
  · left
    have hp' : ¬ (Y j < Y i ∧ Y i < Y (j + 1) ∨ Y (j + 1) < Y i ∧ Y i < Y j) := fun h => hp h hb
    unfold uu
    rw [Nat.add_sub_cancel]
    clear hp d1 d2
    by_cases e : (b + j) % 2 = 0
    · have := hu e
      clear hu hd
      by_cases ei : (b + i) % 2 = 0
      · rw [if_pos ei, if_pos ei, if_pos (by omega : (b + i) % 2 = (b + j) % 2), if_neg (by omega : ¬ (b + i) % 2 = (b + (j + 1)) % 2)]
        have hm2 := hm2 (by omega)
        clear hm
        repeat' split
        all_goals omega
      · rw [if_neg ei, if_neg ei, if_neg (by omega : ¬ (b + i) % 2 = (b + j) % 2), if_pos (by omega : (b + i) % 2 = (b + (j + 1)) % 2)]
        have hm := hm (by omega)
        clear hm2
        repeat' split
        all_goals omega
    · have := hd (by omega)
      clear hu hd
      by_cases ei : (b + i) % 2 = 0
      · rw [if_pos ei, if_pos ei, if_neg (by omega : ¬ (b + i) % 2 = (b + j) % 2), if_pos (by omega : (b + i) % 2 = (b + (j + 1)) % 2)]
        have hm := hm (by omega)
        clear hm2
        repeat' split
        all_goals omega
      · rw [if_neg ei, if_neg ei, if_pos (by omega : (b + i) % 2 = (b + j) % 2), if_neg (by omega : ¬ (b + i) % 2 = (b + (j + 1)) % 2)]
        have hm2 := hm2 (by omega)
        clear hm
        repeat' split
        all_goals omega
  · right
    clear hp hm hm2 hu hd
    unfold vv
    repeat' split
    all_goals omega
theorem telescope4 (u v : Nat → Nat → Int) (N1 : ∀ i j, 1 ≤ i → i + 2 ≤ j → j ≤ 4 → u i j * v i j - u i j * v i (j - 1) - u (i + 1) j * v i j + u (i + 1) j * v i (j - 1) = 0)
    (N2 : ∀ i j, 1 ≤ i → i < j → j + 1 ≤ 4 → u i j * v i j - u i j * v (i - 1) j - u i (j + 1) * v i j + u i (j + 1) * v (i - 1) j = 0)
    (hv0 : ∀ a j, 1 ≤ j → j + 1 ≤ 4 → a * v 0 j = a) (hvn : ∀ a i, 1 ≤ i → i + 1 ≤ 4 → a * v i 4 = -a) (he : ∀ i, 1 ≤ i → i + 2 ≤ 4 → u (i + 1) (i + 2) = -u i (i + 1)) (hc : u 1 4 = u 1 2) :
    u 1 2 * v 1 2 + u 2 3 * v 2 3 = 0 := by
  have a1_3 := N1 1 3 (by omega) (by omega) (by omega)
  have a1_4 := N1 1 4 (by omega) (by omega) (by omega)
  have a2_4 := N1 2 4 (by omega) (by omega) (by omega)
  have b1_2 := N2 1 2 (by omega) (by omega) (by omega)
  have b1_3 := N2 1 3 (by omega) (by omega) (by omega)
  have b2_3 := N2 2 3 (by omega) (by omega) (by omega)
  simp only [Nat.reduceAdd, Nat.reduceSub] at *
  have e1 : u 2 3 * v 1 2 = -(u 1 2 * v 1 2) := by rw [he 1 (by omega) (by omega), Int.neg_mul]
  have e2 : u 3 4 * v 2 3 = -(u 2 3 * v 2 3) := by rw [he 2 (by omega) (by omega), Int.neg_mul]
  rw [hvn _ 1 (by omega) (by omega), hvn _ 1 (by omega) (by omega)] at a1_4
  rw [hvn _ 2 (by omega) (by omega), hvn _ 2 (by omega) (by omega)] at a2_4
  rw [hv0 _ 2 (by omega) (by omega), hv0 _ 2 (by omega) (by omega)] at b1_2
  rw [hv0 _ 3 (by omega) (by omega), hv0 _ 3 (by omega) (by omega)] at b1_3
  have f1 := he 1 (by omega) (by omega)
  have f2 := he 2 (by omega) (by omega)
  simp only [Nat.reduceAdd] at *
  omega
theorem telescope6 (u v : Nat → Nat → Int) (N1 : ∀ i j, 1 ≤ i → i + 2 ≤ j → j ≤ 6 → u i j * v i j - u i j * v i (j - 1) - u (i + 1) j * v i j + u (i + 1) j * v i (j - 1) = 0)
    (N2 : ∀ i j, 1 ≤ i → i < j → j + 1 ≤ 6 → u i j * v i j - u i j * v (i - 1) j - u i (j + 1) * v i j + u i (j + 1) * v (i - 1) j = 0)
    (hv0 : ∀ a j, 1 ≤ j → j + 1 ≤ 6 → a * v 0 j = a) (hvn : ∀ a i, 1 ≤ i → i + 1 ≤ 6 → a * v i 6 = -a) (he : ∀ i, 1 ≤ i → i + 2 ≤ 6 → u (i + 1) (i + 2) = -u i (i + 1)) (hc : u 1 6 = u 1 2) :
    u 1 2 * v 1 2 + u 2 3 * v 2 3 + u 3 4 * v 3 4 + u 4 5 * v 4 5 = 0 := by
  have a1_3 := N1 1 3 (by omega) (by omega) (by omega)
  have a1_4 := N1 1 4 (by omega) (by omega) (by omega)
  have a1_5 := N1 1 5 (by omega) (by omega) (by omega)
  have a1_6 := N1 1 6 (by omega) (by omega) (by omega)
  have a2_4 := N1 2 4 (by omega) (by omega) (by omega)
  have a2_5 := N1 2 5 (by omega) (by omega) (by omega)
  have a2_6 := N1 2 6 (by omega) (by omega) (by omega)
  have a3_5 := N1 3 5 (by omega) (by omega) (by omega)
  have a3_6 := N1 3 6 (by omega) (by omega) (by omega)
  have a4_6 := N1 4 6 (by omega) (by omega) (by omega)
  have b1_2 := N2 1 2 (by omega) (by omega) (by omega)
  have b1_3 := N2 1 3 (by omega) (by omega) (by omega)
  have b1_4 := N2 1 4 (by omega) (by omega) (by omega)
  have b1_5 := N2 1 5 (by omega) (by omega) (by omega)
  have b2_3 := N2 2 3 (by omega) (by omega) (by omega)
  have b2_4 := N2 2 4 (by omega) (by omega) (by omega)
  have b2_5 := N2 2 5 (by omega) (by omega) (by omega)
  have b3_4 := N2 3 4 (by omega) (by omega) (by omega)
  have b3_5 := N2 3 5 (by omega) (by omega) (by omega)
  have b4_5 := N2 4 5 (by omega) (by omega) (by omega)
  simp only [Nat.reduceAdd, Nat.reduceSub] at *
  have e1 : u 2 3 * v 1 2 = -(u 1 2 * v 1 2) := by rw [he 1 (by omega) (by omega), Int.neg_mul]
  have e2 : u 3 4 * v 2 3 = -(u 2 3 * v 2 3) := by rw [he 2 (by omega) (by omega), Int.neg_mul]
  have e3 : u 4 5 * v 3 4 = -(u 3 4 * v 3 4) := by rw [he 3 (by omega) (by omega), Int.neg_mul]
  have e4 : u 5 6 * v 4 5 = -(u 4 5 * v 4 5) := by rw [he 4 (by omega) (by omega), Int.neg_mul]
  rw [hvn _ 1 (by omega) (by omega), hvn _ 1 (by omega) (by omega)] at a1_6
  rw [hvn _ 2 (by omega) (by omega), hvn _ 2 (by omega) (by omega)] at a2_6
  rw [hvn _ 3 (by omega) (by omega), hvn _ 3 (by omega) (by omega)] at a3_6
  rw [hvn _ 4 (by omega) (by omega), hvn _ 4 (by omega) (by omega)] at a4_6
  rw [hv0 _ 2 (by omega) (by omega), hv0 _ 2 (by omega) (by omega)] at b1_2
  rw [hv0 _ 3 (by omega) (by omega), hv0 _ 3 (by omega) (by omega)] at b1_3
  rw [hv0 _ 4 (by omega) (by omega), hv0 _ 4 (by omega) (by omega)] at b1_4
  rw [hv0 _ 5 (by omega) (by omega), hv0 _ 5 (by omega) (by omega)] at b1_5
  have f1 := he 1 (by omega) (by omega)
  have f2 := he 2 (by omega) (by omega)
  have f3 := he 3 (by omega) (by omega)
  have f4 := he 4 (by omega) (by omega)
  simp only [Nat.reduceAdd] at *
  omega
theorem telescope8 (u v : Nat → Nat → Int) (N1 : ∀ i j, 1 ≤ i → i + 2 ≤ j → j ≤ 8 → u i j * v i j - u i j * v i (j - 1) - u (i + 1) j * v i j + u (i + 1) j * v i (j - 1) = 0)
    (N2 : ∀ i j, 1 ≤ i → i < j → j + 1 ≤ 8 → u i j * v i j - u i j * v (i - 1) j - u i (j + 1) * v i j + u i (j + 1) * v (i - 1) j = 0)
    (hv0 : ∀ a j, 1 ≤ j → j + 1 ≤ 8 → a * v 0 j = a) (hvn : ∀ a i, 1 ≤ i → i + 1 ≤ 8 → a * v i 8 = -a) (he : ∀ i, 1 ≤ i → i + 2 ≤ 8 → u (i + 1) (i + 2) = -u i (i + 1)) (hc : u 1 8 = u 1 2) :
    u 1 2 * v 1 2 + u 2 3 * v 2 3 + u 3 4 * v 3 4 + u 4 5 * v 4 5 + u 5 6 * v 5 6 + u 6 7 * v 6 7 = 0 := by
  have a1_3 := N1 1 3 (by omega) (by omega) (by omega)
  have a1_4 := N1 1 4 (by omega) (by omega) (by omega)
  have a1_5 := N1 1 5 (by omega) (by omega) (by omega)
  have a1_6 := N1 1 6 (by omega) (by omega) (by omega)
  have a1_7 := N1 1 7 (by omega) (by omega) (by omega)
  have a1_8 := N1 1 8 (by omega) (by omega) (by omega)
  have a2_4 := N1 2 4 (by omega) (by omega) (by omega)
  have a2_5 := N1 2 5 (by omega) (by omega) (by omega)
  have a2_6 := N1 2 6 (by omega) (by omega) (by omega)
  have a2_7 := N1 2 7 (by omega) (by omega) (by omega)
  have a2_8 := N1 2 8 (by omega) (by omega) (by omega)
  have a3_5 := N1 3 5 (by omega) (by omega) (by omega)
  have a3_6 := N1 3 6 (by omega) (by omega) (by omega)
  have a3_7 := N1 3 7 (by omega) (by omega) (by omega)
  have a3_8 := N1 3 8 (by omega) (by omega) (by omega)
  have a4_6 := N1 4 6 (by omega) (by omega) (by omega)
  have a4_7 := N1 4 7 (by omega) (by omega) (by omega)
  have a4_8 := N1 4 8 (by omega) (by omega) (by omega)
  have a5_7 := N1 5 7 (by omega) (by omega) (by omega)
  have a5_8 := N1 5 8 (by omega) (by omega) (by omega)
  have a6_8 := N1 6 8 (by omega) (by omega) (by omega)
  have b1_2 := N2 1 2 (by omega) (by omega) (by omega)
  have b1_3 := N2 1 3 (by omega) (by omega) (by omega)
  have b1_4 := N2 1 4 (by omega) (by omega) (by omega)
  have b1_5 := N2 1 5 (by omega) (by omega) (by omega)
  have b1_6 := N2 1 6 (by omega) (by omega) (by omega)
  have b1_7 := N2 1 7 (by omega) (by omega) (by omega)
  have b2_3 := N2 2 3 (by omega) (by omega) (by omega)
  have b2_4 := N2 2 4 (by omega) (by omega) (by omega)
  have b2_5 := N2 2 5 (by omega) (by omega) (by omega)
  have b2_6 := N2 2 6 (by omega) (by omega) (by omega)
  have b2_7 := N2 2 7 (by omega) (by omega) (by omega)
  have b3_4 := N2 3 4 (by omega) (by omega) (by omega)
  have b3_5 := N2 3 5 (by omega) (by omega) (by omega)
  have b3_6 := N2 3 6 (by omega) (by omega) (by omega)
  have b3_7 := N2 3 7 (by omega) (by omega) (by omega)
  have b4_5 := N2 4 5 (by omega) (by omega) (by omega)
  have b4_6 := N2 4 6 (by omega) (by omega) (by omega)
  have b4_7 := N2 4 7 (by omega) (by omega) (by omega)
  have b5_6 := N2 5 6 (by omega) (by omega) (by omega)
  have b5_7 := N2 5 7 (by omega) (by omega) (by omega)
  have b6_7 := N2 6 7 (by omega) (by omega) (by omega)
  simp only [Nat.reduceAdd, Nat.reduceSub] at *
  have e1 : u 2 3 * v 1 2 = -(u 1 2 * v 1 2) := by rw [he 1 (by omega) (by omega), Int.neg_mul]
  have e2 : u 3 4 * v 2 3 = -(u 2 3 * v 2 3) := by rw [he 2 (by omega) (by omega), Int.neg_mul]
  have e3 : u 4 5 * v 3 4 = -(u 3 4 * v 3 4) := by rw [he 3 (by omega) (by omega), Int.neg_mul]
  have e4 : u 5 6 * v 4 5 = -(u 4 5 * v 4 5) := by rw [he 4 (by omega) (by omega), Int.neg_mul]
  have e5 : u 6 7 * v 5 6 = -(u 5 6 * v 5 6) := by rw [he 5 (by omega) (by omega), Int.neg_mul]
  have e6 : u 7 8 * v 6 7 = -(u 6 7 * v 6 7) := by rw [he 6 (by omega) (by omega), Int.neg_mul]
  rw [hvn _ 1 (by omega) (by omega), hvn _ 1 (by omega) (by omega)] at a1_8
  rw [hvn _ 2 (by omega) (by omega), hvn _ 2 (by omega) (by omega)] at a2_8
  rw [hvn _ 3 (by omega) (by omega), hvn _ 3 (by omega) (by omega)] at a3_8
  rw [hvn _ 4 (by omega) (by omega), hvn _ 4 (by omega) (by omega)] at a4_8
  rw [hvn _ 5 (by omega) (by omega), hvn _ 5 (by omega) (by omega)] at a5_8
  rw [hvn _ 6 (by omega) (by omega), hvn _ 6 (by omega) (by omega)] at a6_8
  rw [hv0 _ 2 (by omega) (by omega), hv0 _ 2 (by omega) (by omega)] at b1_2
  rw [hv0 _ 3 (by omega) (by omega), hv0 _ 3 (by omega) (by omega)] at b1_3
  rw [hv0 _ 4 (by omega) (by omega), hv0 _ 4 (by omega) (by omega)] at b1_4
  rw [hv0 _ 5 (by omega) (by omega), hv0 _ 5 (by omega) (by omega)] at b1_5
  rw [hv0 _ 6 (by omega) (by omega), hv0 _ 6 (by omega) (by omega)] at b1_6
  rw [hv0 _ 7 (by omega) (by omega), hv0 _ 7 (by omega) (by omega)] at b1_7
  have f1 := he 1 (by omega) (by omega)
  have f2 := he 2 (by omega) (by omega)
  have f3 := he 3 (by omega) (by omega)
  have f4 := he 4 (by omega) (by omega)
  have f5 := he 5 (by omega) (by omega)
  have f6 := he 6 (by omega) (by omega)
  simp only [Nat.reduceAdd] at *
  omega
/-- The way of sector k. -/
def ee (b k : Nat) : Int := if (b + k) % 2 = 0 then 1 else -1
theorem Zig.ue {n b : Nat} {Y H : Nat → Int} (z : Zig n b Y H) (i : Nat) : uu b Y H i (i + 1) = ee b i := by
  have hu := z.up i
  have hd := z.down i
  unfold uu ee
  by_cases e : (b + i) % 2 = 0
  · rw [if_pos (hu e), if_pos e]
  · have := hd (by omega)
    rw [if_neg (by omega), if_pos this, if_neg e]
theorem ee_succ (b i : Nat) : ee b (i + 1) = -ee b i := by
  unfold ee
  split <;> split <;> omega
theorem Zig.he {n b : Nat} {Y H : Nat → Int} (z : Zig n b Y H) (i : Nat) : uu b Y H (i + 1) (i + 2) = -uu b Y H i (i + 1) := by
  rw [z.ue, z.ue, ee_succ]
theorem Zig.hc {n b : Nat} {Y H : Nat → Int} (z : Zig n b Y H) : uu b Y H 1 n = uu b Y H 1 2 := by
  rw [z.ue 1]
  have hu : (b + 0) % 2 = 0 → Y 0 < Y 1 := z.up 0
  have hd : (b + 0) % 2 = 1 → Y 1 < Y 0 := z.down 0
  have := z.yrnd
  unfold uu ee
  by_cases e : (b + 0) % 2 = 0
  · have := hu e
    rw [if_neg (by omega), if_pos (by omega), if_neg (by omega)]
  · have := hd (by omega)
    rw [if_pos (by omega), if_pos (by omega)]
/-- The turn at crease k + 1. -/
def sg (b : Nat) (H : Nat → Int) (k : Nat) : Int := ee b k * vv H k (k + 1)
def sgs (b : Nat) (H : Nat → Int) : Nat → Int
  | 0 => 0
  | k + 1 => sgs b H k + sg b H k
theorem Zig.ends {n b : Nat} {Y H : Nat → Int} (z : Zig n b Y H) (hn : 2 ≤ n) (he : n % 2 = 0) : sg b H 0 = ee b 0 ∧ sg b H (n - 1) = ee b 0 := by
  have h1 := z.low 1 (by omega)
  have h2 := z.low (n - 1) (by omega) (by omega)
  have h3 := z.hrnd
  unfold sg
  constructor
  · by_cases e : n = 2
    · subst e
      have := h1 (by omega)
      rw [show vv H 0 (0 + 1) = 1 from if_pos this, Int.mul_one]
    · have := h1 (by omega)
      rw [show vv H 0 (0 + 1) = 1 from if_pos this, Int.mul_one]
  · rw [show n - 1 + 1 = n by omega, show vv H (n - 1) n = -1 from if_neg (by omega)]
    unfold ee
    split <;> split <;> omega
theorem Zig.v0 {n b : Nat} {Y H : Nat → Int} (z : Zig n b Y H) (a : Int) (j : Nat) (h1 : 1 ≤ j) (h2 : j + 1 ≤ n) : a * vv H 0 j = a := by
  rw [show vv H 0 j = 1 from if_pos (z.low j h1 (by omega)), Int.mul_one]
theorem Zig.vn {n b : Nat} {Y H : Nat → Int} (z : Zig n b Y H) (a : Int) (i : Nat) (h1 : 1 ≤ i) (h2 : i + 1 ≤ n) : a * vv H i n = -a := by
  have := z.low i h1 (by omega)
  have := z.hrnd
  rw [show vv H i n = -1 from if_neg (by omega)]
  omega
/-- All turns together are twice a half. -/
theorem Zig.two {n b : Nat} {Y H : Nat → Int} (z : Zig n b Y H) (hn : n = 2 ∨ n = 4 ∨ n = 6 ∨ n = 8) : sgs b H n = 2 * ee b 0 := by
  have he := z.ends (by omega) (by omega)
  have hs : ∀ i, sg b H i = uu b Y H i (i + 1) * vv H i (i + 1) := fun i => by rw [z.ue]; rfl
  rcases hn with rfl | rfl | rfl | rfl
  · simp only [sgs, Nat.reduceSub] at he ⊢
    omega
  · have h := telescope4 (uu b Y H) (vv H) z.n1 z.n2 z.v0 z.vn (fun i _ _ => z.he i) z.hc
    have h1 := hs 1; have h2 := hs 2
    simp only [sgs, Nat.reduceSub, Nat.reduceAdd] at *
    omega
  · have h := telescope6 (uu b Y H) (vv H) z.n1 z.n2 z.v0 z.vn (fun i _ _ => z.he i) z.hc
    have h1 := hs 1; have h2 := hs 2; have h3 := hs 3; have h4 := hs 4
    simp only [sgs, Nat.reduceSub, Nat.reduceAdd] at *
    omega
  · have h := telescope8 (uu b Y H) (vv H) z.n1 z.n2 z.v0 z.vn (fun i _ _ => z.he i) z.hc
    have h1 := hs 1; have h2 := hs 2; have h3 := hs 3; have h4 := hs 4; have h5 := hs 5; have h6 := hs 6
    simp only [sgs, Nat.reduceSub, Nat.reduceAdd] at *
    omega
end Go.Proofs.Ytioajagblphbnaa
