/- Some list goes; changed and turned round a list that goes goes. -/
import Derived.Test.YtioajagblphbnaaTwom
namespace Go.Proofs.Ytioajagblphbnaa

theorem gt_map {n i : Nat} (f : Nat → Int) (h : i < n) : gt ((List.range n).map f) i = f i := by
  rw [gt_lt (by simpa using h)]
  simp
/-- Each sector on the one ahead of it, begun at crease j. -/
def hgz (n j : Nat) : List Int := (List.range n).map fun i => if j ≤ i then ((i - j : Nat) : Int) else ((i + n - j : Nat) : Int)
theorem hgz_at {n j i : Nat} (h : i < n) : gt (hgz n j) i = if j ≤ i then ((i - j : Nat) : Int) else ((i + n - j : Nat) : Int) := gt_map _ h
theorem hgz_dis {n j : Nat} (hj : j < n) : Dis n (hgz n j) := fun a b ha hb hab => by
  rw [hgz_at ha, hgz_at hb]
  split <;> split <;> omega
theorem hgz_next {n j c : Nat} (hn : 2 ≤ n) (hj : j < n) (hc : c < n) (hcj : c ≠ j) : gt (hgz n j) c = gt (hgz n j) (sA n c) + 1 := by
  rw [hgz_at hc, hgz_at (sA_lt hn), sA_val hn hc]
  by_cases e : c = 0
  · rw [if_pos e]
    split <;> split <;> omega
  · rw [if_neg e]
    split <;> split <;> omega
theorem hgz_first {n j : Nat} (hn : 2 ≤ n) (hj : j < n) : gt (hgz n j) j = 0 ∧ gt (hgz n j) (sA n j) = (n : Int) - 1 := by
  rw [hgz_at hj, hgz_at (sA_lt hn), sA_val hn hj]
  constructor
  · rw [if_pos (Nat.le_refl _)]
    omega
  · by_cases e : j = 0
    · rw [if_pos e]
      split <;> omega
    · rw [if_neg e]
      split <;> omega
theorem hgz_bd {n j c : Nat} (hj : j < n) (hc : c < n) : 0 ≤ gt (hgz n j) c ∧ gt (hgz n j) c < n := by
  rw [hgz_at hc]
  split <;> omega
theorem hgz_good {X : List Int} {n j : Nat} (hn : 2 ≤ n) (hj : j < n) (hmin : ∀ c, c ≤ n → gt X j ≤ gt X c) : goodR X n (hgz n j) = true := by
  unfold goodR
  rw [List.all_eq_true]
  intro c hc
  have hc := List.mem_range.1 hc
  rw [Bool.and_eq_true, List.all_eq_true, List.all_eq_true]
  by_cases e : c = j
  · subst e
    obtain ⟨e1, e2⟩ := hgz_first hn hj
    refine ⟨fun k hk => ?_, fun k hk => ?_⟩
    · have hk := List.mem_range.1 hk
      have m1 := hmin k (by omega)
      have m2 := hmin (k + 1) (by omega)
      have : rPast X k c = false := by
        unfold rPast bet
        rw [decide_eq_false_iff_not]
        omega
      rw [this]
      rfl
    · have hk := List.mem_range.1 hk
      have b1 := hgz_bd hj (show k < n by omega)
      have b2 := hgz_bd hj (sA_lt (j := k) hn)
      unfold rPair
      rw [e1, e2]
      by_cases d1 : gt (hgz n c) (sA n k) = (n : Int) - 1
      · simp [d1]
      · by_cases d2 : gt (hgz n c) (sA n k) = 0
        · simp [d2]
        · by_cases d3 : gt (hgz n c) k = (n : Int) - 1
          · simp [d3]
          · by_cases d4 : gt (hgz n c) k = 0
            · simp [d4]
            · have t1 : bet (gt (hgz n c) (sA n k)) ((n : Int) - 1) 0 = true := by
                unfold bet
                rw [decide_eq_true_eq]
                omega
              have t2 : bet (gt (hgz n c) k) ((n : Int) - 1) 0 = true := by
                unfold bet
                rw [decide_eq_true_eq]
                omega
              rw [t1, t2]
              simp
  · have e1 := hgz_next hn hj hc e
    have nb : ∀ h : Int, bet h (gt (hgz n j) (sA n c)) (gt (hgz n j) c) = false := fun h => by
      unfold bet
      rw [decide_eq_false_iff_not]
      omega
    refine ⟨fun k _ => ?_, fun k _ => ?_⟩
    · rw [nb, Bool.and_false]
      rfl
    · unfold rPair
      rw [nb, nb]
      simp
/-- Some list goes. -/
theorem some_goes {l : List Int} (hw : wrongV l = 0) : ∃ k, k < 2 ^ l.length ∧ goB (dsk l) k = true := by
  obtain ⟨w1, w2, w3⟩ := wrong_none hw
  obtain ⟨n2, n8, ne⟩ := bad_none w1
  obtain ⟨j, hj, hmin⟩ := least_at (gt (plc l l.length)) l.length (by omega)
  have hp := plc_plc (p16_bd w2) w3
  obtain ⟨b, hb, hb2⟩ := kN_nat l.length (hgz l.length j)
  refine ⟨b, hb2, (goB_ord hw hb2).2 ⟨hgz l.length j, by simp [hgz], hgz_dis hj, fun c hc => hgz_bd hj hc, hgz_good n2 hj (fun c hc => ?_), hb⟩⟩
  by_cases e : c = l.length
  · rw [e, hp.2]
    exact hmin 0 (by omega)
  · exact hmin c (by omega)
theorem cnt_pos {X : List Int} {k : Nat} (hg : goB X k = true) : ∀ N, k < N → 0 < cnt X N
  | 0, h => absurd h (by omega)
  | N + 1, h => by
    unfold cnt
    by_cases e : k = N
    · rw [← e, if_pos hg]
      omega
    · have := cnt_pos hg N (by omega)
      omega
/-- The other kinds. -/
def oth (ks : List Int) : List Int := ks.map fun k => 3 - k
theorem oth_at {ks : List Int} {i : Nat} (h : i < ks.length) : gt (oth ks) i = 3 - gt ks i := by
  rw [gt_lt (by simpa [oth] using h), gt_lt h]
  simp [oth]
theorem bet_neg (h a b : Int) : bet (-h) (-a) (-b) = bet h a b := by
  unfold bet
  rw [decide_eq_decide]
  omega
theorem bet_swap (h a b : Int) : bet h a b = bet h b a := by
  unfold bet
  rw [decide_eq_decide]
  omega
def ngs (n : Nat) (G : List Int) : List Int := (List.range n).map fun i => -gt G i
theorem PG.other {X : List Int} {n : Nat} {ks G : List Int} (hn : 2 ≤ n) (hk : ks.length = n) (hd : Dis n G) (p : PG X n ks G n) : Dis n (ngs n G) ∧ PG X n (oth ks) (ngs n G) n := by
  have ha : ∀ i, i < n → gt (ngs n G) i = -gt G i := fun i hi => gt_map _ hi
  refine ⟨fun a b ha' hb hab => by rw [ha a ha', ha b hb]; have := hd a b ha' hb hab; omega, fun j hj hl => ?_⟩
  have hs := sA_lt (j := j) hn
  obtain ⟨h1, h2, h3⟩ := p j hj hl
  refine ⟨?_, fun k hk' => ?_, fun i hi hli hm => ?_⟩
  · rw [oth_at (by omega), ← h1]
    unfold kindV
    rw [ha j hj, ha _ hs]
    have hne : gt G (sA n j) ≠ gt G j := by
      refine hd _ _ hs hj ?_
      rw [sA_val hn hj]
      split <;> omega
    by_cases c1 : gt G (sA n j) < gt G j <;> by_cases c2 : sA n j % 2 = 0
    · simp [c1, c2, show ¬ (gt G j < gt G (sA n j)) by omega]
    · simp [c1, c2, show ¬ (gt G j < gt G (sA n j)) by omega]
    · simp [c1, c2, show gt G j < gt G (sA n j) by omega]
    · simp [c1, c2, show gt G j < gt G (sA n j) by omega]
  · have := h2 k hk'
    unfold piercedB btw at this ⊢
    rw [ha j hj, ha _ hs, ha k hk', bet_neg]
    exact this
  · have := h3 i hi hli hm
    unfold tangledB btw at this ⊢
    rw [ha j hj, ha _ hs, ha i hi, ha _ (sA_lt hn), bet_neg, bet_neg]
    exact this
/-- Read from the other end. -/
def trn (n : Nat) (ks : List Int) : List Int := (List.range n).map fun j => gt ks ((n - j) % n)
def rvs (n : Nat) (G : List Int) : List Int := (List.range n).map fun i => -gt G (n - 1 - i)
theorem sA_rev {n j : Nat} (hn : 2 ≤ n) (hj : j < n) : n - 1 - sA n j = (n - j) % n ∧ n - 1 - j = sA n ((n - j) % n) ∧ (n - j) % n < n := by
  have lt : (n - j) % n < n := Nat.mod_lt _ (by omega)
  by_cases e : j = 0
  · subst e
    rw [sA_val hn hj, if_pos rfl, Nat.sub_zero, Nat.mod_self, sA_val hn (by omega), if_pos rfl]
    omega
  · have e2 : (n - j) % n = n - j := Nat.mod_eq_of_lt (by omega)
    rw [e2, sA_val hn hj, if_neg e, sA_val hn (by omega), if_neg (by omega)]
    omega
theorem PG.turned {X Y : List Int} {n : Nat} {ks G : List Int} (hn : 2 ≤ n) (he : n % 2 = 0) (_hp : Plc X n) (hY : ∀ j, j < n → gt Y j = gt X ((n - j) % n)) (hd : Dis n G) (p : PG X n ks G n) : Dis n (rvs n G) ∧ PG Y n (trn n ks) (rvs n G) n := by
  have ha : ∀ i, i < n → gt (rvs n G) i = -gt G (n - 1 - i) := fun i hi => gt_map _ hi
  refine ⟨fun a b ha' hb hab => by rw [ha a ha', ha b hb]; have := hd (n - 1 - a) (n - 1 - b) (by omega) (by omega) (by omega); omega, fun j hj hl => ?_⟩
  have hs := sA_lt (j := j) hn
  obtain ⟨r1, r2, r3⟩ := sA_rev hn hj
  obtain ⟨h1, h2, h3⟩ := p _ r3 (lies_full hn r3)
  refine ⟨?_, fun k hk' => ?_, fun i hi hli hm => ?_⟩
  · rw [show gt (trn n ks) j = gt ks ((n - j) % n) from gt_map _ hj, ← h1]
    unfold kindV
    rw [ha j hj, ha _ hs, r1, r2]
    have par : sA n j % 2 = sA n ((n - j) % n) % 2 := by
      rw [← r2, sA_val hn hj]
      split <;> omega
    rw [par]
    congr 2
    rw [decide_eq_decide]
    omega
  · have hk2 : n - 1 - k < n := by omega
    have := h2 (n - 1 - k) hk2
    unfold piercedB btw pastB at this ⊢
    rw [ha j hj, ha _ hs, ha k hk', r1, r2, bet_neg, hY j hj, hY k hk', hY _ (Nat.mod_lt _ (by omega)), bet_swap (gt G (n - 1 - k))]
    have q1 : gt X ((n - k) % n) = gt X ((n - 1 - k + 1) % n) := by rw [show n - 1 - k + 1 = n - k by omega]
    have q2 : (n - (k + 1) % n) % n = n - 1 - k := by
      by_cases e : k + 1 = n
      · rw [e, Nat.mod_self, Nat.sub_zero, Nat.mod_self]
        omega
      · rw [Nat.mod_eq_of_lt (show k + 1 < n by omega), Nat.mod_eq_of_lt (by omega)]
        omega
    rw [q1, q2, bet_swap]
    exact this
  · obtain ⟨s1, s2, s3⟩ := sA_rev hn hi
    obtain ⟨m1, m2, m3⟩ := meet_iff.1 hm
    have e1 : ∀ a, a < n → (n - a) % n % 2 = a % 2 := fun a ha' => by rw [mod_par he]; omega
    have := h3 _ s3 (lies_full hn s3) (meet_iff.2 ⟨fun e => m1 (by
      have f : ∀ a, a < n → a = 0 ∧ (n - a) % n = 0 ∨ 0 < a ∧ (n - a) % n = n - a := fun a ha' => by
        by_cases e : a = 0
        · subst e
          rw [Nat.sub_zero, Nat.mod_self]
          omega
        · rw [Nat.mod_eq_of_lt (by omega)]
          omega
      have f1 := f i hi
      have f2 := f j hj
      omega), by rw [e1 i hi, e1 j hj]; exact m2, by rw [← hY i hi, ← hY j hj]; exact m3⟩)
    unfold tangledB btw at this ⊢
    rw [ha j hj, ha _ hs, ha i hi, ha _ (sA_lt hn), r1, r2, s1, s2, bet_neg, bet_neg, bet_swap, bet_swap (gt G (sA n ((n - i) % n)))]
    rw [bne_eq_false_iff_eq] at this ⊢
    exact this.symm
end Go.Proofs.Ytioajagblphbnaa
