/- The creases of an angle that is smaller than both beside it have unlike kinds. -/
import Derived.Test.YtioajagblphbnaaAlll
namespace Go.Proofs.Ytioajagblphbnaa

theorem xf_step (l : List Int) (j : Nat) : (j % 2 = 0 → xf l (j + 1) = xf l j + gt l j) ∧ (j % 2 = 1 → xf l (j + 1) = xf l j - gt l j) := by
  constructor
  · intro h
    rw [xf]
    simp [h]
  · intro h
    rw [xf]
    simp [h]
    omega
theorem crimp {l : List Int} (hw : wrongV l = 0) {k i p q : Nat} (hk : k < 2 ^ l.length) (hg : goB (dsk l) k = true) (hi : i < l.length) (hp : p < l.length) (hpi : i = p + 1 ∨ (i = 0 ∧ p + 1 = l.length)) (hq : q < l.length) (hqi : q = i + 1 ∨ (q = 0 ∧ i + 1 = l.length)) (h1 : gt l i < gt l q) (h2 : gt l i < gt l p) : gt (lst l.length k) i ≠ gt (lst l.length k) q := by
  intro he
  obtain ⟨hb, ha, hx⟩ := wrong_none hw
  obtain ⟨n2, n8, ne⟩ := bad_none hb
  have hbd := p16_bd ha
  obtain ⟨G, hl, hd, hr, hgood, hkn⟩ := (goB_ord hw hk).1 hg
  have hnum := numK_lst hk l.length (Nat.le_refl _)
  have hkn2 : kN l.length G l.length = numK (lst l.length k) l.length := by
    rw [hkn, hnum]
    simp
  have hkv := (kn_eq (n := l.length) (G := G) (ks := lst l.length k) (fun j hj => lst_two hj) l.length (Nat.le_refl _)).1 hkn2
  have hki := hkv i hi
  have hkq := hkv q hq
  rw [← he, ← hki] at hkq
  have si : sA l.length i = p := by
    unfold sA
    rcases hpi with e | ⟨e1, e2⟩
    · subst e
      rw [show p + 1 + l.length - 1 = p + l.length by omega, Nat.add_mod_right, Nat.mod_eq_of_lt hp]
    · subst e1
      rw [Nat.zero_add, Nat.mod_eq_of_lt (by omega)]
      omega
  have sq : sA l.length q = i := by
    unfold sA
    rcases hqi with e | ⟨e1, e2⟩
    · subst e
      rw [show i + 1 + l.length - 1 = i + l.length by omega, Nat.add_mod_right, Nat.mod_eq_of_lt hi]
    · subst e1
      rw [Nat.zero_add, Nat.mod_eq_of_lt (by omega)]
      omega
  unfold kindV at hkq
  rw [si, sq] at hkq
  have pp : p % 2 ≠ i % 2 := by omega
  have pq : q % 2 ≠ i % 2 := by omega
  rw [goodR, List.all_eq_true] at hgood
  have g1 := hgood q (by simpa using hq)
  have g2 := hgood i (by simpa using hi)
  rw [Bool.and_eq_true, List.all_eq_true] at g1 g2
  have g1 := g1.1 p (by simpa using hp)
  have g2 := g2.1 q (by simpa using hq)
  rw [si] at g2
  rw [sq] at g1
  have x0 : ∀ j, j ≤ l.length → gt (plc l l.length) j = xf l j := fun j hj => plc_at hj
  have ep : xf l (p + 1) = xf l i := by
    rcases hpi with e | ⟨e1, e2⟩
    · rw [e]
    · rw [e1, e2, hx]
      rfl
  have eq' : xf l (i + 1) = xf l q := by
    rcases hqi with e | ⟨e1, e2⟩
    · rw [e]
    · rw [e1, e2, hx]
      rfl
  have s1 := xf_step l p
  have s2 := xf_step l i
  have s3 := xf_step l q
  have b1 := hbd i hi
  have b2 := hbd p hp
  have b3 := hbd q hq
  rw [ep] at s1
  rw [eq'] at s2
  have past1 : rPast (plc l l.length) p q = true := by
    unfold rPast
    simp only [bet, decide_eq_true_eq]
    rw [x0 q (by omega), x0 p (by omega), x0 (p + 1) (by omega), ep]
    omega
  have past2 : rPast (plc l l.length) q i = true := by
    unfold rPast
    simp only [bet, decide_eq_true_eq]
    rw [x0 q (by omega), x0 i (by omega), x0 (q + 1) (by omega)]
    omega
  rw [past1] at g1
  rw [past2] at g2
  have d1 : gt G i ≠ gt G p := hd i p hi hp (by omega)
  have d2 : gt G i ≠ gt G q := hd i q hi hq (by omega)
  have d3 : gt G p ≠ gt G q := hd p q hp hq (by
    intro e
    subst e
    have : l.length = 2 := by omega
    have h01 : (i = 0 ∧ p = 1) ∨ (i = 1 ∧ p = 0) := by omega
    have t0 := xf_step l 0
    have t1 := xf_step l 1
    rw [this] at hx
    have z0 : xf l 0 = 0 := rfl
    rcases h01 with ⟨rfl, rfl⟩ | ⟨rfl, rfl⟩ <;> omega)
  simp only [Bool.true_and, bet, Bool.not_eq_true', decide_eq_false_iff_not] at g1 g2
  by_cases ei : i % 2 = 0
  · have e2 : ¬ p % 2 = 0 := by omega
    by_cases c1 : gt G p < gt G i <;> by_cases c2 : gt G i < gt G q <;> simp [ei, e2, c1, c2] at hkq <;> omega
  · have e2 : p % 2 = 0 := by omega
    by_cases c1 : gt G p < gt G i <;> by_cases c2 : gt G i < gt G q <;> simp [ei, e2, c1, c2] at hkq <;> omega
end Go.Proofs.Ytioajagblphbnaa
