/- Sectors around a point, laid one after the other: the mathematics. -/
import Derived.Test.YtioajagblphbnaaProg
namespace Go.Proofs.Ytioajagblphbnaa

def gt (l : List Int) (i : Nat) : Int := l.getD i 0
def sA (n j : Nat) : Nat := (j + n - 1) % n
/-- Between, by numbers. -/
def bet (h a b : Int) : Bool := decide (a < h ∧ h < b ∨ b < h ∧ h < a)
def btw (h : List Int) (k a b : Nat) : Bool := bet (gt h k) (gt h a) (gt h b)
def pastB (X : List Int) (n k j : Nat) : Bool := bet (gt X j) (gt X k) (gt X ((k + 1) % n))
def meetB (X : List Int) (i j : Nat) : Bool := decide (i ≠ j) && (decide (i % 2 = j % 2) && decide (gt X i = gt X j))
def liesB (n m j : Nat) : Bool := decide (sA n j < m) && decide (j < m)
def kindV (n : Nat) (h : List Int) (j : Nat) : Int := if decide (gt h (sA n j) < gt h j) = decide (sA n j % 2 = 0) then 2 else 1
def piercedB (X : List Int) (n : Nat) (h : List Int) (j k : Nat) : Bool := pastB X n k j && btw h k (sA n j) j
def tangledB (n : Nat) (h : List Int) (i j : Nat) : Bool := btw h (sA n i) (sA n j) j != btw h i (sA n j) j
def crossedB (X : List Int) (n : Nat) (h : List Int) (j : Nat) : Bool := ((List.range h.length).any fun k => piercedB X n h j k) || ((List.range n).any fun i => meetB X i j && (liesB n h.length i && tangledB n h i j))
/-- What is asked at one crease. -/
def well (X : List Int) (n : Nat) (ks h : List Int) (j : Nat) : Bool :=
  !liesB n h.length j || (!piercedB X n h j (h.length - 1) && ((decide (sA n j ≠ h.length - 1) && decide (j ≠ h.length - 1)) || (decide (kindV n h j = gt ks j) && !crossedB X n h j)))
def goodB (X : List Int) (n : Nat) (ks h : List Int) : Bool := (List.range n).all fun j => well X n ks h j
def laidL (h : List Int) (t : Int) : List Int := h.map (fun v => if v ≥ t then v + 1 else v) ++ [t]
def goF (X : List Int) (n : Nat) (ks : List Int) : Nat → List Int → Bool
  | 0, _ => true
  | f + 1, h => (List.range (h.length + 1)).any fun t => goodB X n ks (laidL h (t : Int)) && goF X n ks f (laidL h (t : Int))

/-- The reference's. -/
def rPair (X : List Int) (n : Nat) (G : List Int) (j k : Nat) : Bool :=
  decide (gt X k = gt X j) && (decide (decide (gt X (k + 1) > gt X k) = decide (gt X (j + 1) > gt X j)) &&
    (decide (gt G (sA n k) ≠ gt G (sA n j)) && (decide (gt G (sA n k) ≠ gt G j) && (decide (gt G k ≠ gt G (sA n j)) && (decide (gt G k ≠ gt G j) && (bet (gt G (sA n k)) (gt G (sA n j)) (gt G j) != bet (gt G k) (gt G (sA n j)) (gt G j)))))))
def rPast (X : List Int) (c j : Nat) : Bool := bet (gt X j) (gt X c) (gt X (c + 1))
def goodR (X : List Int) (n : Nat) (G : List Int) : Bool := (List.range n).all fun j => ((List.range n).all fun c => !(rPast X c j && bet (gt G c) (gt G (sA n j)) (gt G j))) && ((List.range j).all fun k => !rPair X n G j k)
def kN (n : Nat) (G : List Int) : Nat → Int
  | 0 => 0
  | j + 1 => 2 * kN n G j + (if decide (gt G j > gt G (sA n j)) = decide (sA n j % 2 = 0) then 1 else 0)
def numK (ks : List Int) : Nat → Int
  | 0 => 0
  | i + 1 => 2 * numK ks i + gt ks i - 1

/-- Heights that lie: all is well at what lies. -/
def PG (X : List Int) (n : Nat) (ks h : List Int) (m : Nat) : Prop := ∀ j, j < n → liesB n m j = true → kindV n h j = gt ks j ∧ (∀ k, k < m → piercedB X n h j k = false) ∧ ∀ i, i < n → liesB n m i = true → meetB X i j = true → tangledB n h i j = false
/-- The same order among the first m. -/
def CE (m : Nat) (h h' : List Int) : Prop := ∀ i j, i < m → j < m → (gt h i < gt h j ↔ gt h' i < gt h' j)

theorem btw_ce {m : Nat} {h h' : List Int} (c : CE m h h') {k a b : Nat} (hk : k < m) (ha : a < m) (hb : b < m) : btw h k a b = btw h' k a b := by
  have e1 := c a k ha hk
  have e2 := c k b hk hb
  have e3 := c b k hb hk
  have e4 := c k a hk ha
  unfold btw bet
  rw [decide_eq_decide]
  rw [e1, e2, e3, e4]
theorem lies_iff {n m j : Nat} : liesB n m j = true ↔ sA n j < m ∧ j < m := by simp [liesB]
theorem PG.ce {X : List Int} {n : Nat} {ks h h' : List Int} {m : Nat} (p : PG X n ks h m) (c : CE m h h') : PG X n ks h' m := by
  intro j hj hl
  obtain ⟨p1, p2, p3⟩ := p j hj hl
  obtain ⟨la, lb⟩ := lies_iff.1 hl
  refine ⟨?_, fun k hk => ?_, fun i hi hli hm => ?_⟩
  · rw [← p1]
    unfold kindV
    have := c _ _ la lb
    have e : decide (gt h' (sA n j) < gt h' j) = decide (gt h (sA n j) < gt h j) := by rw [decide_eq_decide, this]
    rw [e]
  · have := p2 k hk
    unfold piercedB at this ⊢
    rw [← btw_ce c hk la lb]
    exact this
  · have := p3 i hi hli hm
    obtain ⟨ia, ib⟩ := lies_iff.1 hli
    unfold tangledB at this ⊢
    rw [← btw_ce c ia la lb, ← btw_ce c ib la lb]
    exact this
/-- Of four numbers, two and two, one pair crosses the other just if the other crosses it. -/
theorem cross_swap (a b c d : Int) (h1 : a ≠ c) (h2 : a ≠ d) (h3 : b ≠ c) (h4 : b ≠ d) (h5 : a ≠ b) (h6 : c ≠ d) : (bet a c d != bet b c d) = (bet c a b != bet d a b) := by
  unfold bet
  have key : ((a < b ∨ b < a) ∧ (a < c ∨ c < a) ∧ (a < d ∨ d < a)) ∧ (b < c ∨ c < b) ∧ (b < d ∨ d < b) ∧ (c < d ∨ d < c) := by omega
  by_cases e1 : c < a ∧ a < d ∨ d < a ∧ a < c <;> by_cases e2 : c < b ∧ b < d ∨ d < b ∧ b < c <;> by_cases e3 : a < c ∧ c < b ∨ b < c ∧ c < a <;> by_cases e4 : a < d ∧ d < b ∨ b < d ∧ d < a <;> simp only [e1, e2, e3, e4, decide_true, decide_false] <;> first | rfl | omega
/-- Distinct. -/
def Dis (m : Nat) (h : List Int) : Prop := ∀ i j, i < m → j < m → i ≠ j → gt h i ≠ gt h j
theorem sA_lt {n j : Nat} (hn : 2 ≤ n) : sA n j < n := Nat.mod_lt _ (by omega)
theorem sA_val {n j : Nat} (hn : 2 ≤ n) (hj : j < n) : sA n j = if j = 0 then n - 1 else j - 1 := by
  unfold sA
  split
  · subst_vars
    rw [Nat.zero_add, Nat.mod_eq_of_lt (by omega)]
  · rw [show j + n - 1 = (j - 1) + n by omega, Nat.add_mod_right, Nat.mod_eq_of_lt (by omega)]
theorem meet_iff {X : List Int} {i j : Nat} : meetB X i j = true ↔ i ≠ j ∧ i % 2 = j % 2 ∧ gt X i = gt X j := by simp [meetB]
theorem tangled_swap {X : List Int} {n m : Nat} {h : List Int} (hn : 2 ≤ n) (he : n % 2 = 0) (hd : Dis m h) {i j : Nat} (hi : i < n) (hj : j < n) (li : liesB n m i = true) (lj : liesB n m j = true) (hm : meetB X i j = true) : tangledB n h i j = tangledB n h j i := by
  obtain ⟨hne, hp, _⟩ := meet_iff.1 hm
  obtain ⟨ia, ib⟩ := lies_iff.1 li
  obtain ⟨ja, jb⟩ := lies_iff.1 lj
  have ei := sA_val hn hi
  have ej := sA_val hn hj
  have q1 : sA n i ≠ sA n j := by rw [ei, ej]; split <;> split <;> omega
  have q2 : sA n i ≠ j := by rw [ei]; split <;> omega
  have q3 : i ≠ sA n j := by rw [ej]; split <;> omega
  have q4 : sA n i ≠ i := by rw [ei]; split <;> omega
  have q5 : sA n j ≠ j := by rw [ej]; split <;> omega
  unfold tangledB btw
  exact cross_swap _ _ _ _ (hd _ _ ia ja q1) (hd _ _ ia jb q2) (hd _ _ ib ja q3) (hd _ _ ib jb hne) (hd _ _ ia ib q4) (hd _ _ ja jb q5)
theorem gt_lt {h : List Int} {i : Nat} (hi : i < h.length) : gt h i = h[i] := by simp [gt, hi]
theorem laid_len (h : List Int) (t : Int) : (laidL h t).length = h.length + 1 := by simp [laidL]
theorem laid_old {h : List Int} {t : Int} {i : Nat} (hi : i < h.length) : gt (laidL h t) i = if gt h i ≥ t then gt h i + 1 else gt h i := by
  rw [gt_lt hi]
  unfold laidL gt
  rw [List.getD_eq_getElem?_getD, List.getElem?_append_left (by simpa using hi), List.getElem?_map, List.getElem?_eq_getElem hi]
  rfl
theorem laid_new (h : List Int) (t : Int) : gt (laidL h t) h.length = t := by
  unfold laidL gt
  rw [List.getD_eq_getElem?_getD, List.getElem?_append_right (by simp)]
  simp
theorem laid_ce (h : List Int) (t : Int) : CE h.length h (laidL h t) := by
  intro i j hi hj
  rw [laid_old hi, laid_old hj]
  split <;> split <;> omega
/-- Heights: each of the first numbers once. -/
def Hts (h : List Int) : Prop := Dis h.length h ∧ ∀ i, i < h.length → 0 ≤ gt h i ∧ gt h i < h.length
theorem Hts.laid {h : List Int} (H : Hts h) {t : Nat} (ht : t ≤ h.length) : Hts (laidL h (t : Int)) := by
  obtain ⟨d, b⟩ := H
  refine ⟨fun i j hi hj hne => ?_, fun i hi => ?_⟩
  · rw [laid_len] at hi hj
    by_cases h1 : i < h.length
    · by_cases h2 : j < h.length
      · have := d i j h1 h2 hne
        rw [laid_old h1, laid_old h2]
        split <;> split <;> omega
      · have : j = h.length := by omega
        subst this
        rw [laid_old h1, laid_new]
        split <;> omega
    · have : i = h.length := by omega
      subst this
      rw [laid_new, laid_old (i := j) (by omega)]
      split <;> omega
  · rw [laid_len] at hi ⊢
    by_cases h1 : i < h.length
    · have := b i h1
      rw [laid_old h1]
      split <;> omega
    · have : i = h.length := by omega
      subst this
      rw [laid_new]
      omega
theorem hts_nil : Hts [] := ⟨fun i j hi => by simp at hi, fun i hi => by simp at hi⟩
theorem PG_nil (X : List Int) (n : Nat) (ks h : List Int) : PG X n ks h 0 := fun j _ hl => by
  have := (lies_iff.1 hl).2
  omega
/-- All is well with one more, just if it was and the last one's creases are well. -/
theorem PG.step {X : List Int} {n : Nat} {ks h : List Int} (hn : 2 ≤ n) (he : n % 2 = 0) (H : Hts h) {t : Nat} (ht : t ≤ h.length) (p : PG X n ks h h.length) (hg : goodB X n ks (laidL h (t : Int)) = true) : PG X n ks (laidL h (t : Int)) (h.length + 1) := by
  have hd := (H.laid ht).1
  rw [laid_len] at hd
  have q := p.ce (laid_ce h (t : Int))
  unfold goodB at hg
  rw [List.all_eq_true] at hg
  have hw : ∀ j, j < n → liesB n (h.length + 1) j = true → piercedB X n (laidL h (t : Int)) j h.length = false ∧ ((sA n j ≠ h.length ∧ j ≠ h.length) ∨ (kindV n (laidL h (t : Int)) j = gt ks j ∧ crossedB X n (laidL h (t : Int)) j = false)) := fun j hj hl => by
    have := hg j (List.mem_range.2 hj)
    unfold well at this
    rw [laid_len, hl] at this
    simpa using this
  clear hg
  have hcr : ∀ j, crossedB X n (laidL h (t : Int)) j = false → (∀ k, k < h.length + 1 → piercedB X n (laidL h (t : Int)) j k = false) ∧ ∀ i, i < n → liesB n (h.length + 1) i = true → meetB X i j = true → tangledB n (laidL h (t : Int)) i j = false := fun j hc => by
    unfold crossedB at hc
    rw [Bool.or_eq_false_iff, List.any_eq_false, List.any_eq_false, laid_len] at hc
    refine ⟨fun k hk => by simpa using hc.1 k (List.mem_range.2 hk), fun i hi hl hm => ?_⟩
    have := hc.2 i (List.mem_range.2 hi)
    simpa [hl, hm] using this
  intro j hj hl
  obtain ⟨w1, w2⟩ := hw j hj hl
  rcases w2 with ⟨n1, n2⟩ | ⟨k1, c1⟩
  · obtain ⟨la, lb⟩ := lies_iff.1 hl
    have hl' : liesB n h.length j = true := lies_iff.2 ⟨by omega, by omega⟩
    obtain ⟨q1, q2, q3⟩ := q j hj hl'
    refine ⟨q1, fun k hk => ?_, fun i hi hli hme => ?_⟩
    · by_cases e : k < h.length
      · exact q2 k e
      · have : k = h.length := by omega
        subst this
        exact w1
    · obtain ⟨ia, ib⟩ := lies_iff.1 hli
      by_cases e : sA n i ≠ h.length ∧ i ≠ h.length
      · exact q3 i hi (lies_iff.2 ⟨by omega, by omega⟩) hme
      · rcases (hw i hi hli).2 with e2 | ⟨_, c2⟩
        · exact absurd e2 e
        · have hme' : meetB X j i = true := by
            obtain ⟨a, b, c⟩ := meet_iff.1 hme
            exact meet_iff.2 ⟨a.symm, b.symm, c.symm⟩
          rw [tangled_swap hn he hd hi hj hli hl hme]
          exact (hcr i c2).2 j hj hl hme'
  · obtain ⟨h1, h2⟩ := hcr j c1
    exact ⟨k1, h1, h2⟩
theorem PG.good {X : List Int} {n : Nat} {ks h : List Int} (p : PG X n ks h h.length) (h0 : 0 < h.length) : goodB X n ks h = true := by
  unfold goodB
  rw [List.all_eq_true]
  intro j hj
  have hj := List.mem_range.1 hj
  unfold well
  cases hl : liesB n h.length j
  · rfl
  · obtain ⟨p1, p2, p3⟩ := p j hj hl
    have hc : crossedB X n h j = false := by
      unfold crossedB
      rw [Bool.or_eq_false_iff, List.any_eq_false, List.any_eq_false]
      refine ⟨fun k hk => by simp [p2 k (List.mem_range.1 hk)], fun i hi => ?_⟩
      have := p3 i (List.mem_range.1 hi)
      cases hm : meetB X i j <;> cases hl2 : liesB n h.length i <;> simp_all
    simp [p2 (h.length - 1) (by omega), p1, hc]
/-- The ranks of the first m. -/
def rk (H : List Int) (m i : Nat) : Nat := (List.range m).countP fun j => decide (gt H j < gt H i)
def rks (H : List Int) (m : Nat) : List Int := (List.range m).map fun i => (rk H m i : Int)
theorem rks_len (H : List Int) (m : Nat) : (rks H m).length = m := by simp [rks]
theorem rks_at {H : List Int} {m i : Nat} (hi : i < m) : gt (rks H m) i = (rk H m i : Int) := by
  rw [gt_lt (by rw [rks_len]; exact hi)]
  simp [rks]
theorem rk_mono {H : List Int} {m a b : Nat} (h : gt H a ≤ gt H b) : rk H m a ≤ rk H m b := by
  unfold rk
  apply List.countP_mono_left
  intro x _ hx
  simp only [decide_eq_true_eq] at hx ⊢
  omega
theorem countP_lt {p q : Nat → Bool} : ∀ (l : List Nat), (∀ x ∈ l, p x = true → q x = true) → (∃ x ∈ l, p x = false ∧ q x = true) → l.countP p < l.countP q
  | [], _, h => by obtain ⟨x, hx, _⟩ := h; cases hx
  | x :: l, h1, h2 => by
    rw [List.countP_cons, List.countP_cons]
    have hm : l.countP p ≤ l.countP q := List.countP_mono_left (fun y hy => h1 y (by simp [hy]))
    by_cases hx : p x = false ∧ q x = true
    · simp only [hx.1, hx.2]
      simp
      omega
    · obtain ⟨y, hy, hyp⟩ := h2
      have : y ∈ l := by
        rcases List.mem_cons.1 hy with rfl | h
        · exact absurd hyp hx
        · exact h
      have ih := countP_lt l (fun y hy => h1 y (by simp [hy])) ⟨y, this, hyp⟩
      have h1x := h1 x (by simp)
      cases hpx : p x
      · cases hqx : q x <;> simp <;> omega
      · rw [h1x hpx]
        simp
        omega
theorem rk_strict {H : List Int} {m a b : Nat} (ha : a < m) (h : gt H a < gt H b) : rk H m a < rk H m b := by
  unfold rk
  refine countP_lt _ (fun x _ hx => ?_) ⟨a, List.mem_range.2 ha, by simp, by simpa using h⟩
  simp only [decide_eq_true_eq] at hx ⊢
  omega
theorem rks_ce (H : List Int) (m : Nat) : CE m H (rks H m) := by
  intro i j hi hj
  rw [rks_at hi, rks_at hj]
  constructor
  · intro h
    have := rk_strict (m := m) hi h
    omega
  · intro h
    by_cases e : gt H i < gt H j
    · exact e
    · have := rk_mono (H := H) (m := m) (a := j) (b := i) (by omega)
      omega
theorem rk_le (H : List Int) (m i : Nat) : rk H m i ≤ m := by
  have : rk H m i ≤ (List.range m).length := List.countP_le_length
  simpa using this
theorem rk_succ (H : List Int) (m i : Nat) : rk H (m + 1) i = rk H m i + if gt H m < gt H i then 1 else 0 := by
  unfold rk
  rw [List.range_succ, List.countP_append, List.countP_singleton]
  simp
theorem rks_succ {H : List Int} {m : Nat} (hd : Dis (m + 1) H) : rks H (m + 1) = laidL (rks H m) ((rk H m m : Nat) : Int) := by
  apply List.ext_getElem (by rw [rks_len, laid_len, rks_len])
  intro i h1 h2
  rw [rks_len] at h1
  rw [← gt_lt, ← gt_lt, rks_at h1, rk_succ]
  by_cases hi : i < m
  · rw [laid_old (by rw [rks_len]; exact hi), rks_at hi]
    have hne := hd i m (by omega) (by omega) (by omega)
    by_cases e : gt H m < gt H i
    · have := rk_mono (H := H) (m := m) (a := m) (b := i) (by omega)
      rw [if_pos e, if_pos (by omega)]
      omega
    · have := rk_strict (H := H) (m := m) (a := i) (b := m) hi (by omega)
      rw [if_neg e, if_neg (by omega)]
      omega
  · have : i = m := by omega
    subst this
    have hn := laid_new (rks H i) ((rk H i i : Nat) : Int)
    rw [rks_len] at hn
    rw [hn, if_neg (by omega)]
    omega
/-- A good order is found. -/
theorem goes_of_full {X : List Int} {n : Nat} {ks H : List Int} (hd : Dis n H) (p : PG X n ks H n) : ∀ f m, m + f = n → goF X n ks f (rks H m) = true
  | 0, _, _ => rfl
  | f + 1, m, hm => by
    unfold goF
    rw [List.any_eq_true]
    refine ⟨rk H m m, List.mem_range.2 (by rw [rks_len]; have := rk_le H m m; omega), ?_⟩
    rw [← rks_succ (fun i j hi hj => hd i j (by omega) (by omega)), Bool.and_eq_true]
    refine ⟨?_, goes_of_full hd p f (m + 1) (by omega)⟩
    have q : PG X n ks H (m + 1) := fun j hj hl => by
      obtain ⟨la, lb⟩ := lies_iff.1 hl
      obtain ⟨p1, p2, p3⟩ := p j hj (lies_iff.2 ⟨by omega, by omega⟩)
      refine ⟨p1, fun k hk => p2 k (by omega), fun i hi hli hme => ?_⟩
      obtain ⟨ia, ib⟩ := lies_iff.1 hli
      exact p3 i hi (lies_iff.2 ⟨by omega, by omega⟩) hme
    have q2 := q.ce (rks_ce H (m + 1))
    have hl := rks_len H (m + 1)
    apply PG.good
    · rw [hl]; exact q2
    · rw [hl]; omega
theorem full_of_goes {X : List Int} {n : Nat} {ks : List Int} (hn : 2 ≤ n) (he : n % 2 = 0) : ∀ f h, h.length + f = n → Hts h → PG X n ks h h.length → goF X n ks f h = true → ∃ G : List Int, G.length = n ∧ Hts G ∧ PG X n ks G n
  | 0, h, hl, H, p, _ => by
    have : h.length = n := by omega
    exact ⟨h, this, H, by rw [this] at p; exact p⟩
  | f + 1, h, hl, H, p, hg => by
    unfold goF at hg
    rw [List.any_eq_true] at hg
    obtain ⟨t, ht, hg⟩ := hg
    rw [Bool.and_eq_true] at hg
    have ht := List.mem_range.1 ht
    have st := PG.step hn he H (by omega) p hg.1
    refine full_of_goes hn he f _ (by rw [laid_len]; omega) (H.laid (by omega)) ?_ hg.2
    rw [laid_len]
    exact st

/-- The places: forth at even sectors, back at odd ones; the last ends where the first begins. -/
def Plc (X : List Int) (n : Nat) : Prop := (∀ k, k < n → (k % 2 = 0 → gt X k < gt X (k + 1)) ∧ (k % 2 = 1 → gt X (k + 1) < gt X k)) ∧ gt X n = gt X 0
theorem past_same {X : List Int} {n k j : Nat} (hp : gt X n = gt X 0) (hk : k < n) : pastB X n k j = rPast X k j := by
  unfold pastB rPast
  by_cases h : k + 1 < n
  · rw [Nat.mod_eq_of_lt h]
  · have : k + 1 = n := by omega
    rw [this, Nat.mod_self, hp]
theorem kn_eq {n : Nat} {G ks : List Int} (hk : ∀ i, i < n → gt ks i = 1 ∨ gt ks i = 2) : ∀ m, m ≤ n → (kN n G m = numK ks m ↔ ∀ j, j < m → kindV n G j = gt ks j)
  | 0, _ => by simp [kN, numK]
  | m + 1, hm => by
    have ih := kn_eq (G := G) hk m (by omega)
    unfold kN numK
    have hkm := hk m (by omega)
    have e : kindV n G m = (if decide (gt G m > gt G (sA n m)) = decide (sA n m % 2 = 0) then 2 else 1) := rfl
    constructor
    · intro h j hj
      have h1 : kN n G m = numK ks m := by split at h <;> omega
      by_cases hjm : j < m
      · exact ih.1 h1 j hjm
      · have : j = m := by omega
        subst this
        rw [e]
        split at h <;> rename_i hc
        · rw [if_pos hc]; omega
        · rw [if_neg hc]; omega
    · intro h
      have h1 := ih.2 (fun j hj => h j (by omega))
      have h2 := h m (by omega)
      rw [e] at h2
      split at h2 <;> rename_i hc
      · rw [if_pos hc]; omega
      · rw [if_neg hc]; omega
theorem pair_iff {X : List Int} {n : Nat} {G : List Int} (hn : 2 ≤ n) (he : n % 2 = 0) (hp : Plc X n) (hd : Dis n G) {j k : Nat} (hj : j < n) (hk : k < n) (hkj : k ≠ j) : rPair X n G j k = (meetB X k j && tangledB n G k j) := by
  have up : ∀ i, i < n → decide (gt X (i + 1) > gt X i) = decide (i % 2 = 0) := fun i hi => by
    rw [decide_eq_decide]
    have := hp.1 i hi
    constructor
    · intro h
      by_cases e : i % 2 = 0
      · exact e
      · have := this.2 (by omega)
        omega
    · exact fun e => this.1 e
  have par : decide (decide (gt X (k + 1) > gt X k) = decide (gt X (j + 1) > gt X j)) = decide (k % 2 = j % 2) := by
    rw [up k hk, up j hj]
    rcases Nat.mod_two_eq_zero_or_one k with a | a <;> rcases Nat.mod_two_eq_zero_or_one j with b | b <;> simp [a, b]
  unfold rPair meetB
  rw [par]
  by_cases h2 : k % 2 = j % 2
  · have ei := sA_val hn hk
    have ej := sA_val hn hj
    have q1 : sA n k ≠ sA n j := by rw [ei, ej]; split <;> split <;> omega
    have q2 : sA n k ≠ j := by rw [ei]; split <;> omega
    have q3 : k ≠ sA n j := by rw [ej]; split <;> omega
    have d1 := hd _ _ (sA_lt (j := k) hn) (sA_lt (j := j) hn) q1
    have d2 := hd _ _ (sA_lt (j := k) hn) hj q2
    have d3 := hd _ _ hk (sA_lt (j := j) hn) q3
    have d4 := hd _ _ hk hj hkj
    simp [h2, d1, d2, d3, d4, hkj, tangledB, btw]
  · simp [h2]
theorem full_iff {X : List Int} {n : Nat} {ks G : List Int} (hn : 2 ≤ n) (he : n % 2 = 0) (hp : Plc X n) (hd : Dis n G) (hk : ∀ i, i < n → gt ks i = 1 ∨ gt ks i = 2) : (goodR X n G = true ∧ kN n G n = numK ks n) ↔ PG X n ks G n := by
  rw [kn_eq hk n (Nat.le_refl _)]
  have al : ∀ j, j < n → liesB n n j = true := fun j hj => lies_iff.2 ⟨sA_lt hn, hj⟩
  unfold goodR
  rw [List.all_eq_true]
  constructor
  · rintro ⟨h, h2⟩ j hj hl
    have hr : ∀ j, j < n → (∀ k, k < n → piercedB X n G j k = false) ∧ ∀ k, k < j → (meetB X k j && tangledB n G k j) = false := fun j hj => by
      have := h j (List.mem_range.2 hj)
      rw [Bool.and_eq_true, List.all_eq_true, List.all_eq_true] at this
      refine ⟨fun k hk => ?_, fun k hk => ?_⟩
      · have := this.1 k (List.mem_range.2 hk)
        unfold piercedB btw
        rw [past_same hp.2 hk]
        revert this
        cases rPast X k j <;> simp
      · have := this.2 k (List.mem_range.2 hk)
        rw [← pair_iff hn he hp hd hj (by omega) (by omega)]
        simpa using this
    refine ⟨h2 j hj, (hr j hj).1, fun i hi hli hme => ?_⟩
    rcases Nat.lt_trichotomy i j with c | c | c
    · have := (hr j hj).2 i c
      simpa [hme] using this
    · exact absurd c (meet_iff.1 hme).1
    · have hme' : meetB X j i = true := by
        obtain ⟨a, b, c⟩ := meet_iff.1 hme
        exact meet_iff.2 ⟨a.symm, b.symm, c.symm⟩
      have := (hr i hi).2 j c
      rw [tangled_swap hn he hd hi hj (al i hi) hl hme]
      simpa [hme'] using this
  · intro p
    refine ⟨fun j hj => ?_, fun j hj => (p j hj (al j hj)).1⟩
    have hj := List.mem_range.1 hj
    obtain ⟨p1, p2, p3⟩ := p j hj (al j hj)
    rw [Bool.and_eq_true, List.all_eq_true, List.all_eq_true]
    refine ⟨fun k hk => ?_, fun k hk => ?_⟩
    · have hk := List.mem_range.1 hk
      have := p2 k hk
      unfold piercedB btw at this
      rw [past_same hp.2 hk] at this
      simp [this]
    · have hk := List.mem_range.1 hk
      rw [pair_iff hn he hp hd hj (by omega) (by omega)]
      cases hm : meetB X k j
      · rfl
      · simp [p3 k (by omega) (al k (by omega)) hm]
/-- What the reference asks. -/
def Ord (X : List Int) (n : Nat) (b : Int) : Prop := ∃ G : List Int, G.length = n ∧ Dis n G ∧ (∀ j, j < n → 0 ≤ gt G j ∧ gt G j < n) ∧ goodR X n G = true ∧ kN n G n = b
theorem goes_iff {X : List Int} {n : Nat} {ks : List Int} (hn : 2 ≤ n) (he : n % 2 = 0) (hp : Plc X n) (hk : ∀ i, i < n → gt ks i = 1 ∨ gt ks i = 2) : goF X n ks n [] = true ↔ Ord X n (numK ks n) := by
  constructor
  · intro h
    obtain ⟨G, hl, H, p⟩ := full_of_goes hn he n [] (by simp) hts_nil (PG_nil _ _ _ _) h
    have hd : Dis n G := by have := H.1; rw [hl] at this; exact this
    obtain ⟨a, b⟩ := (full_iff hn he hp hd hk).2 p
    refine ⟨G, hl, hd, ?_, a, b⟩
    have := H.2
    rw [hl] at this
    exact this
  · rintro ⟨G, hl, hd, hb, a, b⟩
    have p := (full_iff hn he hp hd hk).1 ⟨a, b⟩
    exact goes_of_full hd p n 0 (by omega)
end Go.Proofs.Ytioajagblphbnaa
