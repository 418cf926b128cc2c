/- Strips folded in half: the mathematics of their words. -/
import Derived.Test.YtblagffijppgjaaBase
namespace Go.Proofs.Ytblagffijppgjaa
open Go.RowKit

/-- A word after one more fold. -/
def crd : List Int → Int → List Int
  | [], k => [k]
  | x :: w, k => k :: x :: crd w (3 - k)
def opn (fs : List Int) : List Int := fs.foldl crd []
/-- The word of folds that stand the last one first. -/
def opr : List Int → List Int
  | [] => []
  | k :: rs => crd (opr rs) k
/-- What stands at place p. -/
def pl : List Int → Nat → Int
  | [], _ => 0
  | k :: rs, p => if p % 2 = 1 then (if p % 4 = 3 then 3 - k else k) else pl rs (p / 2)
theorem pl_cons (k : Int) (rs : List Int) (p : Nat) : pl (k :: rs) p = if p % 2 = 1 then (if p % 4 = 3 then 3 - k else k) else pl rs (p / 2) := rfl
theorem crd_len : ∀ (w : List Int) (k : Int), (crd w k).length = 2 * w.length + 1
  | [], k => rfl
  | x :: w, k => by
    simp only [crd, List.length_cons, crd_len w (3 - k)]
    omega
theorem opn_snoc (fs : List Int) (k : Int) : opn (fs ++ [k]) = crd (opn fs) k := by simp [opn]
theorem opn_opr (rs : List Int) : opn rs.reverse = opr rs := by
  induction rs with
  | nil => rfl
  | cons k rs ih => rw [List.reverse_cons, opn_snoc, ih]; rfl
theorem opr_opn (fs : List Int) : opn fs = opr fs.reverse := by rw [← opn_opr, List.reverse_reverse]
theorem opr_len : ∀ rs : List Int, (opr rs).length + 1 = 2 ^ rs.length
  | [] => rfl
  | k :: rs => by
    have := opr_len rs
    simp only [opr, crd_len, List.length_cons, Nat.pow_succ]
    omega
theorem opn_len (fs : List Int) : (opn fs).length + 1 = 2 ^ fs.length := by rw [opr_opn, opr_len, List.length_reverse]
theorem gt_zero (x : Int) (l : List Int) : gt (x :: l) 0 = x := rfl
theorem gt_succ (x : Int) (l : List Int) (i : Nat) : gt (x :: l) (i + 1) = gt l i := by simp [gt]
theorem crd_even : ∀ (w : List Int) (k : Int) (j : Nat), j ≤ w.length → gt (crd w k) (2 * j) = if j % 2 = 1 then 3 - k else k
  | [], k, j, h => by
    have : j = 0 := by simpa using h
    subst this
    rfl
  | x :: w, k, 0, _ => rfl
  | x :: w, k, j + 1, h => by
    have e : 2 * (j + 1) = 2 * j + 1 + 1 := by omega
    rw [e, crd, gt_succ, gt_succ, crd_even w (3 - k) j (by simpa using h)]
    by_cases c : j % 2 = 1
    · rw [if_pos c, if_neg (by omega)]
      omega
    · rw [if_neg c, if_pos (by omega)]
theorem crd_odd : ∀ (w : List Int) (k : Int) (j : Nat), j < w.length → gt (crd w k) (2 * j + 1) = gt w j
  | [], k, j, h => by simp at h
  | x :: w, k, 0, _ => rfl
  | x :: w, k, j + 1, h => by
    have e : 2 * (j + 1) + 1 = (2 * j + 1) + 1 + 1 := by omega
    rw [e, crd, gt_succ, gt_succ, gt_succ, crd_odd w (3 - k) j (by simpa using h)]
theorem opr_at : ∀ (rs : List Int) (p : Nat), 1 ≤ p → p < 2 ^ rs.length → gt (opr rs) (p - 1) = pl rs p
  | [], p, h1, h2 => by simp at h2; omega
  | k :: rs, p, h1, h2 => by
    have hl := opr_len rs
    rw [List.length_cons, Nat.pow_succ] at h2
    rw [opr, pl_cons]
    by_cases c : p % 2 = 1
    · have e : p - 1 = 2 * (p / 2) := by omega
      rw [if_pos c, e, crd_even _ _ _ (by omega)]
      by_cases d : p % 4 = 3
      · rw [if_pos d, if_pos (by omega)]
      · rw [if_neg d, if_neg (by omega)]
    · have e : p - 1 = 2 * (p / 2 - 1) + 1 := by omega
      rw [if_neg c, e, crd_odd _ _ _ (by omega), opr_at rs (p / 2) (by omega) (by omega)]
/-- A word by its places. -/
theorem opr_map (rs : List Int) : opr rs = (List.range (2 ^ rs.length - 1)).map fun i => pl rs (i + 1) := by
  have hl := opr_len rs
  refine List.ext_getElem (by simp; omega) (fun i h1 h2 => ?_)
  have := opr_at rs (i + 1) (by omega) (by omega)
  rw [Nat.add_sub_cancel, gt_lt h1] at this
  rw [this]
  simp
theorem pl_pow : ∀ (rs : List Int) (j : Nat), j < rs.length → pl rs (2 ^ j) = gt rs j
  | [], j, h => by simp at h
  | k :: rs, 0, _ => rfl
  | k :: rs, j + 1, h => by
    have e : 2 ^ (j + 1) = 2 * 2 ^ j := by rw [Nat.pow_succ]; omega
    rw [pl, e, if_neg (by omega), gt_succ, Nat.mul_div_cancel_left _ (by omega), pl_pow rs j (by simpa using h)]
/-- What the first rounds of begun gather. -/
def bgl (w : List Int) (k : Nat) : List Int := (List.range k).map fun j => gt w (2 ^ j - 1)
theorem bgl_succ (w : List Int) (k : Nat) : bgl w (k + 1) = bgl w k ++ [gt w (2 ^ k - 1)] := by simp [bgl, List.range_succ]
theorem bgl_len (w : List Int) (k : Nat) : (bgl w k).length = k := by simp [bgl]
theorem pow_lt {a b : Nat} (h : a < b) : 2 ^ a < 2 ^ b := Nat.pow_lt_pow_right (by omega) h
theorem pow_pos (a : Nat) : 1 ≤ 2 ^ a := Nat.one_le_two_pow
theorem bgl_opr (rs : List Int) : bgl (opr rs) rs.length = rs := by
  refine List.ext_getElem (bgl_len _ _) (fun i h1 h2 => ?_)
  have h3 := opr_at rs (2 ^ i) (pow_pos i) (pow_lt h2)
  rw [pl_pow rs i h2] at h3
  simp only [bgl, List.getElem_map, List.getElem_range]
  rw [h3, gt_lt h2]
theorem bgl_opn (fs : List Int) : (bgl (opn fs) fs.length).reverse = fs := by
  have := bgl_opr fs.reverse
  rw [List.length_reverse, opn_opr fs.reverse |>.symm, List.reverse_reverse] at this
  rw [this, List.reverse_reverse]
/-- A word read from its end, all kinds changed. -/
def flp : List Int → List Int
  | [] => []
  | [k] => [3 - k]
  | k :: k2 :: rs => k :: flp (k2 :: rs)
theorem flp_len : ∀ rs : List Int, (flp rs).length = rs.length
  | [] => rfl
  | [k] => rfl
  | k :: k2 :: rs => by
    have := flp_len (k2 :: rs)
    simp only [flp, List.length_cons] at this ⊢
    omega
theorem flp_at : ∀ (rs : List Int) (p : Nat), 1 ≤ p → p < 2 ^ rs.length → 3 - pl rs (2 ^ rs.length - p) = pl (flp rs) p
  | [], p, h1, h2 => by simp at h2; omega
  | [k], p, h1, h2 => by
    have : p = 1 := by simp at h2; omega
    subst this
    rfl
  | k :: k2 :: rs, p, h1, h2 => by
    have e : 2 ^ (k :: k2 :: rs).length = 4 * 2 ^ rs.length := by simp only [List.length_cons, Nat.pow_succ]; omega
    have e2 : 2 ^ (k2 :: rs).length = 2 * 2 ^ rs.length := by simp only [List.length_cons, Nat.pow_succ]; omega
    have ih := flp_at (k2 :: rs) (p / 2)
    rw [e] at h2 ⊢
    rw [e2] at ih
    rw [flp, pl_cons k (k2 :: rs), pl_cons k (flp (k2 :: rs))]
    by_cases c : p % 2 = 1
    · rw [if_pos c, if_pos (by omega)]
      by_cases d : p % 4 = 3
      · rw [if_pos d, if_neg (by omega)]
      · rw [if_neg d, if_pos (by omega)]
        omega
    · rw [if_neg c, if_neg (by omega), ← ih (by omega) (by omega)]
      rw [show (4 * 2 ^ rs.length - p) / 2 = 2 * 2 ^ rs.length - p / 2 from by omega]
/-- Kinds of creases. -/
def isK (k : Int) : Bool := k == 1 || k == 2
def allK (l : List Int) : Bool := l.all isK
theorem allK_at {l : List Int} (h : allK l = true) {i : Nat} (hi : i < l.length) : gt l i = 1 ∨ gt l i = 2 := by
  have := (List.all_eq_true.1 h) (gt l i) (by rw [gt_lt hi]; exact List.getElem_mem hi)
  simpa [isK] using this
theorem allK_of {l : List Int} (h : ∀ i, i < l.length → gt l i = 1 ∨ gt l i = 2) : allK l = true := by
  rw [allK, List.all_eq_true]
  intro x hx
  obtain ⟨i, hi, e⟩ := List.getElem_of_mem hx
  have := h i hi
  rw [gt_lt hi, e] at this
  simpa [isK] using this
theorem not_allK {l : List Int} {i : Nat} (hi : i < l.length) (h1 : gt l i ≠ 1) (h2 : gt l i ≠ 2) : allK l = false := by
  rw [Bool.eq_false_iff]
  intro h
  rcases allK_at h hi with h | h
  · exact h1 h
  · exact h2 h
theorem pl_kind : ∀ (rs : List Int), (∀ k ∈ rs, k = 1 ∨ k = 2) → ∀ p, 1 ≤ p → p < 2 ^ rs.length → pl rs p = 1 ∨ pl rs p = 2
  | [], _, p, h1, h2 => by simp at h2; omega
  | k :: rs, h, p, h1, h2 => by
    have hk := h k (by simp)
    rw [List.length_cons, Nat.pow_succ] at h2
    rw [pl_cons]
    by_cases c : p % 2 = 1
    · rw [if_pos c]
      by_cases d : p % 4 = 3
      · rw [if_pos d]; omega
      · rw [if_neg d]; exact hk
    · rw [if_neg c]
      exact pl_kind rs (fun k hk => h k (by simp [hk])) (p / 2) (by omega) (by omega)
theorem allK_mem {l : List Int} (h : allK l = true) : ∀ k ∈ l, k = 1 ∨ k = 2 := fun k hk => by
  have := (List.all_eq_true.1 h) k hk
  simpa [isK] using this
theorem allK_opr {rs : List Int} (h : ∀ k ∈ rs, k = 1 ∨ k = 2) : allK (opr rs) = true := by
  refine allK_of fun i hi => ?_
  have hl := opr_len rs
  have := pl_kind rs h (i + 1) (by omega) (by omega)
  rwa [← opr_at rs (i + 1) (by omega) (by omega), Nat.add_sub_cancel] at this
theorem allK_opn {fs : List Int} (h : allK fs = true) : allK (opn fs) = true := by
  rw [opr_opn]
  exact allK_opr fun k hk => allK_mem h k (by simpa using hk)
/-- The word read from its end. -/
def bck (w : List Int) : List Int := (w.map fun k => 3 - k).reverse
theorem bck_opr (rs : List Int) : bck (opr rs) = opr (flp rs) := by
  have hl := opr_len rs
  have hf := opr_len (flp rs)
  rw [flp_len] at hf
  refine List.ext_getElem (by simp [bck]; omega) (fun i h1 h2 => ?_)
  have a1 := opr_at (flp rs) (i + 1) (by omega) (by rw [flp_len]; omega)
  rw [Nat.add_sub_cancel, gt_lt h2] at a1
  have a2 := opr_at rs (2 ^ rs.length - (i + 1)) (by omega) (by omega)
  rw [a1, ← flp_at rs (i + 1) (by omega) (by omega), ← a2]
  simp only [bck, List.getElem_reverse, List.getElem_map, List.length_map]
  rw [gt_lt (by omega)]
  congr 2
  omega
end Go.Proofs.Ytblagffijppgjaa
