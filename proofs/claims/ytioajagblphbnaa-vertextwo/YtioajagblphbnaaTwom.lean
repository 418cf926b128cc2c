/- What VertexTwo asks of the lists that go: two more of one kind. -/
import Derived.Test.YtioajagblphbnaaAlll
import Derived.Test.YtioajagblphbnaaMaek
namespace Go.Proofs.Ytioajagblphbnaa

theorem least_at (f : Nat → Int) : ∀ n, 0 < n → ∃ i, i < n ∧ ∀ j, j < n → f i ≤ f j
  | 0, h => absurd h (by omega)
  | 1, _ => ⟨0, by omega, fun j hj => by rw [show j = 0 by omega]; exact Int.le_refl _⟩
  | n + 2, _ => by
    obtain ⟨i, hi, h⟩ := least_at f (n + 1) (by omega)
    by_cases e : f i ≤ f (n + 1)
    · refine ⟨i, by omega, fun j hj => ?_⟩
      by_cases ej : j = n + 1
      · rw [ej]
        exact e
      · exact h j (by omega)
    · refine ⟨n + 1, by omega, fun j hj => ?_⟩
      by_cases ej : j = n + 1
      · rw [ej]
        exact Int.le_refl _
      · have := h j (by omega)
        omega
theorem mod_par {n a : Nat} (he : n % 2 = 0) : a % n % 2 = a % 2 := Nat.mod_mod_of_dvd a (Nat.dvd_of_mod_eq_zero he)
theorem mod_nx {n a : Nat} : (a % n + 1) % n = (a + 1) % n := Nat.mod_add_mod _ _ _
theorem mod_sA {n a : Nat} (hn : 2 ≤ n) (ha : 1 ≤ a) : sA n (a % n) = (a - 1) % n := by
  unfold sA
  rw [show a % n + n - 1 = a % n + (n - 1) by omega, Nat.mod_add_mod, show a + (n - 1) = a - 1 + n by omega, Nat.add_mod_right]
theorem mod_ne {n a d : Nat} (h0 : 0 < d) (h1 : d < n) : a % n ≠ (a + d) % n := fun e => by
  have := Nat.sub_mod_eq_zero_of_mod_eq e.symm
  rw [Nat.add_sub_cancel_left, Nat.mod_eq_of_lt h1] at this
  omega
theorem bet_iff {h a b : Int} : bet h a b = true ↔ Bt h a b := by simp [bet, Bt]
theorem next_at {X : List Int} {n k : Nat} (hp : Plc X n) (hk : k < n) : gt X ((k + 1) % n) = gt X (k + 1) := by
  by_cases e : k + 1 = n
  · rw [e, Nat.mod_self, hp.2]
  · rw [Nat.mod_eq_of_lt (by omega)]
theorem lies_full {n j : Nat} (hn : 2 ≤ n) (hj : j < n) : liesB n n j = true := lies_iff.2 ⟨sA_lt hn, hj⟩
/-- An order that is good, begun at its lowest sector. -/
theorem zig_of {X : List Int} {n : Nat} {ks G : List Int} (hn : 2 ≤ n) (he : n % 2 = 0) (hp : Plc X n) (hd : Dis n G) (p : PG X n ks G n) {i0 : Nat} (h0 : i0 < n) (hmin : ∀ j, j < n → gt G i0 ≤ gt G j) : Zig n i0 (fun k => gt X ((i0 + k) % n)) (fun k => gt G ((i0 + k) % n)) := by
  have lt : ∀ a, a % n < n := fun a => Nat.mod_lt _ (by omega)
  refine ⟨?_, ?_, ?_, ?_, ?_, ?_, ?_, ?_⟩
  · intro k hk
    show gt X ((i0 + k) % n) < gt X ((i0 + (k + 1)) % n)
    rw [← Nat.add_assoc, ← mod_nx, next_at hp (lt _)]
    exact (hp.1 _ (lt _)).1 (by rw [mod_par he]; exact hk)
  · intro k hk
    show gt X ((i0 + (k + 1)) % n) < gt X ((i0 + k) % n)
    rw [← Nat.add_assoc, ← mod_nx, next_at hp (lt _)]
    exact (hp.1 _ (lt _)).2 (by rw [mod_par he]; exact hk)
  · intro k j hj h1 h2
    have h1 : Bt (gt X ((i0 + j) % n)) (gt X ((i0 + k) % n)) (gt X ((i0 + (k + 1)) % n)) := h1
    have h2 : Bt (gt G ((i0 + k) % n)) (gt G ((i0 + (j - 1)) % n)) (gt G ((i0 + j) % n)) := h2
    have h3 := (p ((i0 + j) % n) (lt _) (lies_full hn (lt _))).2.1 ((i0 + k) % n) (lt _)
    unfold piercedB pastB btw at h3
    rw [mod_sA hn (by omega), show i0 + j - 1 = i0 + (j - 1) by omega, mod_nx, Nat.add_assoc, bet_iff.2 h1, bet_iff.2 h2] at h3
    cases h3
  · intro i j hi hij hjn hpar hX
    have h3 := (p ((i0 + j) % n) (lt _) (lies_full hn (lt _))).2.2 ((i0 + i) % n) (lt _) (lies_full hn (lt _)) (meet_iff.2 ⟨by
      rw [show i0 + j = i0 + i + (j - i) by omega]
      exact mod_ne (by omega) (by omega), by rw [mod_par he, mod_par he]; exact hpar, hX⟩)
    unfold tangledB btw at h3
    rw [mod_sA hn (by omega), mod_sA hn (by omega), show i0 + j - 1 = i0 + (j - 1) by omega, show i0 + i - 1 = i0 + (i - 1) by omega] at h3
    show Bt (gt G ((i0 + (i - 1)) % n)) (gt G ((i0 + (j - 1)) % n)) (gt G ((i0 + j) % n)) ↔ Bt (gt G ((i0 + i) % n)) (gt G ((i0 + (j - 1)) % n)) (gt G ((i0 + j) % n))
    rw [← bet_iff, ← bet_iff]
    simp only [bne_eq_false_iff_eq] at h3
    rw [h3]
  · intro i j hij hjn
    exact hd _ _ (lt _) (lt _) (by
      rw [show i0 + j = i0 + i + (j - i) by omega]
      exact mod_ne (by omega) (by omega))
  · intro j h1 h2
    have e0 : (i0 + 0) % n = i0 := Nat.mod_eq_of_lt h0
    show gt G ((i0 + 0) % n) < gt G ((i0 + j) % n)
    rw [e0]
    have := hmin _ (lt (i0 + j))
    have := hd i0 ((i0 + j) % n) h0 (lt _) (by
      have := mod_ne (n := n) (a := i0) (d := j) (by omega) h2
      rw [Nat.mod_eq_of_lt h0] at this
      exact this)
    omega
  · show gt G ((i0 + n) % n) = gt G ((i0 + 0) % n)
    rw [Nat.add_mod_right, Nat.add_zero]
  · show gt X ((i0 + n) % n) = gt X ((i0 + 0) % n)
    rw [Nat.add_mod_right, Nat.add_zero]
/-- Mountains less valleys, of the first so many. -/
def msm (ks : List Int) : Nat → Int
  | 0 => 0
  | i + 1 => msm ks i + (3 - 2 * gt ks i)
theorem turn_kind {X : List Int} {n : Nat} {ks G : List Int} (hn : 2 ≤ n) (he : n % 2 = 0) (p : PG X n ks G n) (i0 k : Nat) : 3 - 2 * gt ks ((i0 + (k + 1)) % n) = -sg i0 (fun k => gt G ((i0 + k) % n)) k := by
  have lt : ∀ a, a % n < n := fun a => Nat.mod_lt _ (by omega)
  have h := (p ((i0 + (k + 1)) % n) (lt _) (lies_full hn (lt _))).1
  rw [← h]
  unfold kindV
  rw [mod_sA hn (by omega), show i0 + (k + 1) - 1 = i0 + k by omega, mod_par he]
  unfold sg ee vv
  show 3 - 2 * (if decide (gt G ((i0 + k) % n) < gt G ((i0 + (k + 1)) % n)) = decide ((i0 + k) % 2 = 0) then 2 else 1) = -((if (i0 + k) % 2 = 0 then 1 else -1) * if gt G ((i0 + k) % n) < gt G ((i0 + (k + 1)) % n) then 1 else -1)
  by_cases c1 : gt G ((i0 + k) % n) < gt G ((i0 + (k + 1)) % n) <;> by_cases c2 : (i0 + k) % 2 = 0 <;> simp [c1, c2]
theorem round_sum {ks : List Int} {n i0 : Nat} {H : Nat → Int} (hn : n = 2 ∨ n = 4 ∨ n = 6 ∨ n = 8) (h0 : i0 < n) (h : ∀ k, 3 - 2 * gt ks ((i0 + (k + 1)) % n) = -sg i0 H k) : msm ks n = -sgs i0 H n := by
  rcases hn with rfl | rfl | rfl | rfl
  · have a0 := h 0; have a1 := h 1
    have : i0 = 0 ∨ i0 = 1 := by omega
    rcases this with rfl | rfl <;> simp only [Nat.reduceAdd, Nat.reduceMod, msm, sgs] at * <;> omega
  · have a0 := h 0; have a1 := h 1; have a2 := h 2; have a3 := h 3
    have : i0 = 0 ∨ i0 = 1 ∨ i0 = 2 ∨ i0 = 3 := by omega
    rcases this with rfl | rfl | rfl | rfl <;> simp only [Nat.reduceAdd, Nat.reduceMod, msm, sgs] at * <;> omega
  · have a0 := h 0; have a1 := h 1; have a2 := h 2; have a3 := h 3; have a4 := h 4; have a5 := h 5
    have : i0 = 0 ∨ i0 = 1 ∨ i0 = 2 ∨ i0 = 3 ∨ i0 = 4 ∨ i0 = 5 := by omega
    rcases this with rfl | rfl | rfl | rfl | rfl | rfl <;> simp only [Nat.reduceAdd, Nat.reduceMod, msm, sgs] at * <;> omega
  · have a0 := h 0; have a1 := h 1; have a2 := h 2; have a3 := h 3; have a4 := h 4; have a5 := h 5; have a6 := h 6; have a7 := h 7
    have : i0 = 0 ∨ i0 = 1 ∨ i0 = 2 ∨ i0 = 3 ∨ i0 = 4 ∨ i0 = 5 ∨ i0 = 6 ∨ i0 = 7 := by omega
    rcases this with rfl | rfl | rfl | rfl | rfl | rfl | rfl | rfl <;> simp only [Nat.reduceAdd, Nat.reduceMod, msm, sgs] at * <;> omega
/-- Maekawa: two more of one kind. -/
theorem maekawa {X : List Int} {n : Nat} {ks G : List Int} (hn : 2 ≤ n) (h8 : n ≤ 8) (he : n % 2 = 0) (hp : Plc X n) (hd : Dis n G) (p : PG X n ks G n) : msm ks n = 2 ∨ msm ks n = -2 := by
  obtain ⟨i0, h0, hmin⟩ := least_at (gt G) n (by omega)
  have z := zig_of hn he hp hd p h0 hmin
  have hn4 : n = 2 ∨ n = 4 ∨ n = 6 ∨ n = 8 := by omega
  rw [round_sum hn4 h0 (turn_kind hn he p i0), z.two hn4]
  unfold ee
  split <;> omega
/-- A list that goes has a good order. -/
theorem order_of {l : List Int} (hw : wrongV l = 0) {k : Nat} (hk : k < 2 ^ l.length) (hg : goB (dsk l) k = true) : ∃ G : List Int, Dis l.length G ∧ PG (plc l l.length) l.length (lst l.length k) G l.length := by
  obtain ⟨w1, w2, w3⟩ := wrong_none hw
  obtain ⟨n2, n8, ne⟩ := bad_none w1
  obtain ⟨G, hl, hd, hr, hgood, hkn⟩ := (goB_ord hw hk).1 hg
  refine ⟨G, hd, (full_iff n2 ne (plc_plc (p16_bd w2) w3) hd (fun i hi => lst_two hi)).1 ⟨hgood, ?_⟩⟩
  rw [hkn, numK_lst hk l.length (Nat.le_refl _)]
  simp
end Go.Proofs.Ytioajagblphbnaa
