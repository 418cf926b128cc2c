/- How many orders there are: a search that leaves what crosses already. -/
import Derived.Test.YtdflindoemffaaaRond
namespace Go.Proofs.Ytdflindoemffaaa

def hN (n : Nat) (b : List Int) : List Nat := (List.range n).map fun s : Nat => b.idxOf ((s : Int) + 1)
theorem hN_at {n : Nat} {b : List Int} {s : Nat} (h : s < n) : (hN n b).getD s 0 = b.idxOf ((s : Int) + 1) := by simp [hN, h]
def prs : List (Nat × Nat) := [(0, 2), (0, 4), (0, 6), (2, 4), (2, 6), (4, 6), (1, 3), (1, 5), (3, 5)]
def bN (h a b : Nat) : Bool := (Nat.blt a h && Nat.blt h b) || (Nat.blt b h && Nat.blt h a)
theorem bN_iff (h a b : Nat) : bN h a b = true ↔ a < h ∧ h < b ∨ b < h ∧ h < a := by simp [bN, Nat.blt_eq]
def thr (L a b c d : Nat) : Bool := Nat.ble 3 ((Nat.blt a L).toNat + (Nat.blt b L).toNat + (Nat.blt c L).toNat + (Nat.blt d L).toNat)
def crN (L a b c d : Nat) : Bool := thr L a b c d && (bN c a b != bN d a b)
def badN (L n : Nat) (H : List Nat) : Bool := prs.any fun p => Nat.blt (p.2 + 1) n && crN L (H.getD p.1 0) (H.getD (p.1 + 1) 0) (H.getD p.2 0) (H.getD (p.2 + 1) 0)
def cnt (n : Nat) : Nat → List Int → Nat
  | 0, b => if badN b.length n (hN n b) = true then 0 else 1
  | f + 1, b => if badN b.length n (hN n b) = true then 0 else ((List.range n).map fun t : Nat => if b.contains ((t : Int) + 1) = true then 0 else cnt n f (b ++ [(t : Int) + 1])).sum
theorem toNat_blt (a L : Nat) : (Nat.blt a L).toNat = if a < L then 1 else 0 := by
  by_cases h : a < L
  · rw [if_pos h, show Nat.blt a L = true by rw [Nat.blt_eq]; exact h]
    rfl
  · rw [if_neg h, show Nat.blt a L = false by rw [Bool.eq_false_iff, ne_eq, Nat.blt_eq]; exact h]
    rfl
theorem thr_iff (L a b c d : Nat) : thr L a b c d = true ↔ 3 ≤ (if a < L then 1 else 0) + (if b < L then 1 else 0) + (if c < L then 1 else 0) + (if d < L then 1 else 0) := by
  rw [thr, toNat_blt, toNat_blt, toNat_blt, toNat_blt, Nat.ble_eq]
theorem idx_app (b r : List Int) (x : Int) : (b.idxOf x < b.length ∧ (b ++ r).idxOf x = b.idxOf x) ∨ (b.idxOf x = b.length ∧ b.length ≤ (b ++ r).idxOf x) := by
  rw [List.idxOf_append]
  by_cases h : x ∈ b
  · rw [if_pos h]
    exact Or.inl ⟨List.idxOf_lt_length_of_mem h, rfl⟩
  · rw [if_neg h]
    exact Or.inr ⟨List.idxOf_eq_length h, by omega⟩
theorem crN_cr {b r : List Int} {i k : Nat} (h : crN b.length (b.idxOf ((i : Int) + 1)) (b.idxOf (((i + 1 : Nat) : Int) + 1)) (b.idxOf ((k : Int) + 1)) (b.idxOf (((k + 1 : Nat) : Int) + 1)) = true) : crB (b ++ r) i k = true := by
  have e1 := idx_app b r ((i : Int) + 1)
  have e2 := idx_app b r (((i + 1 : Nat) : Int) + 1)
  have e3 := idx_app b r ((k : Int) + 1)
  have e4 := idx_app b r (((k + 1 : Nat) : Int) + 1)
  unfold crB hk hg
  generalize (b ++ r).idxOf ((i : Int) + 1) = A at *
  generalize (b ++ r).idxOf (((i + 1 : Nat) : Int) + 1) = B at *
  generalize (b ++ r).idxOf ((k : Int) + 1) = C at *
  generalize (b ++ r).idxOf (((k + 1 : Nat) : Int) + 1) = D at *
  generalize b.idxOf ((i : Int) + 1) = x at *
  generalize b.idxOf (((i + 1 : Nat) : Int) + 1) = y at *
  generalize b.idxOf ((k : Int) + 1) = u at *
  generalize b.idxOf (((k + 1 : Nat) : Int) + 1) = v at *
  generalize b.length = L at *
  unfold crN at h
  rw [Bool.and_eq_true, thr_iff, bne_iff_ne, ne_eq, Bool.eq_iff_iff, bN_iff, bN_iff] at h
  rw [bne_iff_ne, ne_eq, Bool.eq_iff_iff]
  simp only [bet, decide_eq_true_eq]
  rcases e1 with e1 | e1 <;> rcases e2 with e2 | e2 <;> rcases e3 with e3 | e3 <;> rcases e4 with e4 | e4 <;> (repeat' split at h) <;> omega
theorem prs_ok : ∀ p ∈ prs, p.1 + 1 < p.2 ∧ (p.2 - p.1) % 2 = 0 := by decide
theorem prs_any : ((List.range 8).all fun i => (List.range 8).all fun k => !(decide (i + 1 < k) && decide (k + 1 < 8) && decide ((k - i) % 2 = 0)) || prs.contains (i, k)) = true := by decide +kernel
theorem prs_all (i : Nat) (hi : i < 8) (k : Nat) (hk' : k < 8) (h1 : i + 1 < k) (h2 : k + 1 < 8) (h3 : (k - i) % 2 = 0) : (i, k) ∈ prs := by
  have := List.all_eq_true.1 (List.all_eq_true.1 prs_any i (List.mem_range.2 hi)) k (List.mem_range.2 hk')
  rw [decide_eq_true h1, decide_eq_true h2, decide_eq_true h3] at this
  rw [← List.contains_iff_mem]
  simpa using this
theorem bad_not {b r : List Int} {n : Nat} (hl : (b ++ r).length = n) (h : badN b.length n (hN n b) = true) : gdB (b ++ r) = false := by
  unfold badN at h
  rw [List.any_eq_true] at h
  obtain ⟨p, hp, hx⟩ := h
  obtain ⟨q1, q2⟩ := prs_ok p hp
  rw [Bool.and_eq_true, Nat.blt_eq] at hx
  rw [hN_at (by omega), hN_at (by omega), hN_at (by omega), hN_at (by omega)] at hx
  have hc := crN_cr (r := r) hx.2
  rw [Bool.eq_false_iff]
  intro hg
  have := (gd_iff _).1 hg p.1 p.2 q1 (by omega) q2
  rw [hc] at this
  cases this
theorem bad_full {b : List Int} {n : Nat} (hp : Prm b) (hl : b.length = n) (h8 : n ≤ 8) (h : badN b.length n (hN n b) = false) : gdB b = true := by
  subst hl
  rw [gd_iff]
  intro i k h1 h2 h3
  unfold badN at h
  rw [List.any_eq_false] at h
  have hx := h (i, k) (prs_all i (by omega) k (by omega) h1 (by omega) h3)
  simp only [Bool.and_eq_true, Nat.blt_eq, not_and, Bool.not_eq_true] at hx
  have hy := hx h2
  rw [hN_at (by omega), hN_at (by omega), hN_at (by omega), hN_at (by omega)] at hy
  have lt : ∀ s : Nat, s < b.length → b.idxOf ((s : Int) + 1) < b.length := fun s hs => by
    have := hk_bd hp hs
    unfold hk hg at this
    omega
  have l1 := lt i (by omega)
  have l2 := lt (i + 1) (by omega)
  have l3 := lt k (by omega)
  have l4 := lt (k + 1) (by omega)
  unfold crB hk hg
  generalize b.idxOf ((i : Int) + 1) = x at *
  generalize b.idxOf (((i + 1 : Nat) : Int) + 1) = y at *
  generalize b.idxOf ((k : Int) + 1) = u at *
  generalize b.idxOf (((k + 1 : Nat) : Int) + 1) = v at *
  unfold crN at hy
  rw [show thr b.length x y u v = true by rw [thr_iff, if_pos l1, if_pos l2, if_pos l3, if_pos l4]; omega, Bool.true_and] at hy
  rw [bne_eq_false_iff_eq, Bool.eq_iff_iff, bN_iff, bN_iff] at hy
  rw [bne_eq_false_iff_eq, Bool.eq_iff_iff]
  simp only [bet, decide_eq_true_eq]
  omega
theorem ords_ext (P : List Int → Bool) (n : Nat) : ∀ f b, ∀ l ∈ ords P n f b, ∃ r, l = b ++ r
  | 0, b, l, hl => by
    unfold ords at hl
    split at hl
    · simp at hl
      exact ⟨[], by simp [hl]⟩
    · simp at hl
  | f + 1, b, l, hl => by
    unfold ords at hl
    rw [List.mem_flatMap] at hl
    obtain ⟨t, _, ht⟩ := hl
    split at ht
    · simp at ht
    · obtain ⟨r, hr⟩ := ords_ext P n f _ l ht
      exact ⟨_, by rw [hr, List.append_assoc]⟩
theorem bad_nil {n f : Nat} {b : List Int} (hl : b.length + f = n) (h : badN b.length n (hN n b) = true) : ords gdB n f b = [] := by
  rw [List.eq_nil_iff_forall_not_mem]
  intro l hm
  obtain ⟨r, rfl⟩ := ords_ext _ _ _ _ _ hm
  have h1 := ords_P _ _ _ _ _ hm
  have h2 := ords_lens _ _ _ _ hl _ hm
  rw [bad_not h2 h] at h1
  cases h1
theorem cnt_len (n : Nat) (h8 : n ≤ 8) : ∀ f b, b.length + f = n → Pp n b → cnt n f b = (ords gdB n f b).length
  | 0, b, hl, hp => by
    unfold cnt
    cases hb : badN b.length n (hN n b)
    · rw [if_neg (by simp), ords, if_pos (bad_full (hp.prm (by omega)) (by omega) h8 hb)]
      rfl
    · rw [if_pos rfl, bad_nil hl hb]
      rfl
  | f + 1, b, hl, hp => by
    unfold cnt
    cases hb : badN b.length n (hN n b)
    · rw [if_neg (by simp), ords, List.length_flatMap]
      congr 1
      apply List.map_congr_left
      intro t ht
      cases hc : b.contains ((t : Int) + 1)
      · rw [if_neg (by simp), if_neg (by simp)]
        exact cnt_len n h8 f _ (by simp; omega) (hp.more (List.mem_range.1 ht) hc)
      · rw [if_pos rfl, if_pos rfl]
        rfl
    · rw [if_pos rfl, bad_nil hl hb]
      rfl
end Go.Proofs.Ytdflindoemffaaa
