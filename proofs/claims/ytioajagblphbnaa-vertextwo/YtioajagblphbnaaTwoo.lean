/- Flat tells of the changed list, and of the one that is read from the other end. -/
import Derived.Test.YtioajagblphbnaaTwon
namespace Go.Proofs.Ytioajagblphbnaa

theorem rev_at {l : List Int} {j : Nat} (h : j < l.length) : gt l.reverse j = gt l (l.length - 1 - j) := by
  rw [gt_lt (by simpa using h), gt_lt (by omega), List.getElem_reverse]
theorem xf_rev {l : List Int} (ne : l.length % 2 = 0) (h0 : xf l l.length = 0) : ∀ j, j ≤ l.length → xf l.reverse j = xf l (l.length - j)
  | 0, _ => by
    rw [Nat.sub_zero, h0]
    rfl
  | j + 1, hj => by
    have ih := xf_rev ne h0 j (by omega)
    rw [xf, ih, rev_at (by omega)]
    have e : l.length - j = (l.length - 1 - j) + 1 := by omega
    rw [e, show l.length - (j + 1) = l.length - 1 - j by omega, xf]
    by_cases c : j % 2 = 0
    · rw [if_pos c, if_neg (by omega)]
      omega
    · rw [if_neg c, if_pos (by omega)]
      omega
theorem wrong_rev {l : List Int} (hw : wrongV l = 0) : wrongV l.reverse = 0 := by
  obtain ⟨w1, w2, w3⟩ := wrong_none hw
  obtain ⟨n2, n8, ne⟩ := bad_none w1
  unfold wrongV
  rw [List.length_reverse, w1, List.any_reverse, w2, xf_rev ne w3 _ (Nat.le_refl _), Nat.sub_self]
  simp [xf]
theorem oth_kinds {ks : List Int} (h : ∀ i, i < ks.length → gt ks i = 1 ∨ gt ks i = 2) : (oth ks).any p11 = false := by
  rw [List.any_eq_false]
  intro x hx
  obtain ⟨y, hy, rfl⟩ := List.mem_map.1 hx
  obtain ⟨i, hi, rfl⟩ := List.getElem_of_mem hy
  have := h i hi
  rw [gt_lt hi] at this
  rcases this with e | e <;> simp [e, p11]
theorem trn_kinds {n : Nat} {ks : List Int} (hn : 0 < n) (h : ∀ i, i < n → gt ks i = 1 ∨ gt ks i = 2) : (trn n ks).any p11 = false := by
  rw [List.any_eq_false]
  intro x hx
  obtain ⟨j, _, rfl⟩ := List.mem_map.1 hx
  rcases h ((n - j) % n) (Nat.mod_lt _ hn) with e | e <;> simp [e, p11]
theorem flat_of {l ks : List Int} (hw : wrongV l = 0) (hk : ks.length = l.length) (hp : ks.any p11 = false) (hg : goF (plc l l.length) l.length ks l.length [] = true) : flatB l ks = true ∧ flatE l ks = 0 := by
  have hg2 : goF (dsk l) l.length ks l.length [] = true := by
    rw [goF_congr (X := dsk l) (Y := plc l l.length) (fun i hi => by rw [dsk_at hi, plc_at (by omega)]) l.length [] (by simp)]
    exact hg
  unfold flatB flatE
  rw [hg2, if_neg (by omega), if_neg (by omega), hp]
  simp [hk, hw]
theorem goes_full {X ks G : List Int} {n : Nat} (hd : Dis n G) (p : PG X n ks G n) : goF X n ks n [] = true := goes_of_full hd p n 0 (by omega)
theorem flat_other {l : List Int} (hw : wrongV l = 0) {k : Nat} (hk : k < 2 ^ l.length) (hg : goB (dsk l) k = true) : flatB l (oth (lst l.length k)) = true ∧ flatE l (oth (lst l.length k)) = 0 := by
  obtain ⟨n2, n8, ne⟩ := bad_none (wrong_none hw).1
  obtain ⟨G, hd, p⟩ := order_of hw hk hg
  obtain ⟨hd', p'⟩ := p.other n2 (lst_len _ _) hd
  exact flat_of hw (by simp [oth, lst_len]) (oth_kinds (fun i hi => lst_two (by rw [lst_len] at hi; exact hi))) (goes_full hd' p')
theorem flat_back {l : List Int} (hw : wrongV l = 0) {k : Nat} (hk : k < 2 ^ l.length) (hg : goB (dsk l) k = true) : flatB l.reverse (trn l.length (lst l.length k)) = true ∧ flatE l.reverse (trn l.length (lst l.length k)) = 0 := by
  obtain ⟨w1, w2, w3⟩ := wrong_none hw
  obtain ⟨n2, n8, ne⟩ := bad_none w1
  obtain ⟨G, hd, p⟩ := order_of hw hk hg
  have hp := plc_plc (p16_bd w2) w3
  obtain ⟨hd', p'⟩ := p.turned (Y := plc l.reverse l.length) n2 ne hp (fun j hj => by
    rw [plc_at (by omega), xf_rev ne w3 j (by omega)]
    by_cases e : j = 0
    · subst e
      rw [Nat.sub_zero, Nat.mod_self, plc_at (by omega), w3]
      rfl
    · rw [Nat.mod_eq_of_lt (by omega), plc_at (by omega)]) hd
  refine flat_of (wrong_rev hw) (by simp [trn]) (trn_kinds (by omega) (fun i hi => lst_two hi)) ?_
  rw [List.length_reverse]
  exact goes_full hd' p'
theorem two_more {l : List Int} (hw : wrongV l = 0) {k : Nat} (hk : k < 2 ^ l.length) (hg : goB (dsk l) k = true) : msm (lst l.length k) l.length = 2 ∨ msm (lst l.length k) l.length = -2 := by
  obtain ⟨w1, w2, w3⟩ := wrong_none hw
  obtain ⟨n2, n8, ne⟩ := bad_none w1
  obtain ⟨G, hd, p⟩ := order_of hw hk hg
  exact maekawa n2 n8 ne (plc_plc (p16_bd w2) w3) hd p
end Go.Proofs.Ytioajagblphbnaa
