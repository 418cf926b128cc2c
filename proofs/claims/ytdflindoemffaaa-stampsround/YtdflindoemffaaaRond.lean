/- Turned round, and the uppermost stamp below all others: an order may be, too. -/
import Derived.Test.YtdflindoemffaaaWitn
namespace Go.Proofs.Ytdflindoemffaaa

theorem hk_of {l : List Int} (h : Prm l) {s j : Nat} (hj : j < l.length) (e : gt l j = (s : Int) + 1) : hk l s = (j : Int) := by
  have := hg_at h hj
  rw [e] at this
  exact this
theorem at_hk {l : List Int} (h : Prm l) {s : Nat} (hs : s < l.length) : ∃ j, j < l.length ∧ gt l j = (s : Int) + 1 ∧ hk l s = (j : Int) := by
  have hm := h (s + 1) (by omega) (by omega)
  obtain ⟨j, hj, e⟩ := mem_gt hm
  have e' : gt l j = (s : Int) + 1 := by rw [e]; omega
  exact ⟨j, hj, e', hk_of h hj e'⟩
theorem prm_rev {l : List Int} (h : Prm l) : Prm l.reverse := fun s h1 h2 => by
  rw [List.length_reverse] at h2
  rw [List.mem_reverse]
  exact h s h1 h2
theorem hk_rev {l : List Int} (h : Prm l) {s : Nat} (hs : s < l.length) : hk l.reverse s = (l.length : Int) - 1 - hk l s := by
  obtain ⟨j, hj, e, hv⟩ := at_hk h hs
  have hj2 : l.length - 1 - j < l.reverse.length := by rw [List.length_reverse]; omega
  have : gt l.reverse (l.length - 1 - j) = (s : Int) + 1 := by
    rw [gt_lt hj2, List.getElem_reverse, ← e, gt_lt hj]
    congr 1
    omega
  rw [hk_of (prm_rev h) hj2 this, hv]
  omega
theorem gd_rev {l : List Int} (h : Prm l) (hg : gdB l = true) : gdB l.reverse = true := by
  rw [gd_iff] at hg ⊢
  intro i k h1 h2 h3
  rw [List.length_reverse] at h2
  have := hg i k h1 h2 h3
  unfold crB at this ⊢
  rw [hk_rev h (by omega), hk_rev h (by omega), hk_rev h (by omega), hk_rev h (by omega)]
  rw [Bool.eq_false_iff] at this ⊢
  simp only [bne_iff_ne, ne_eq, Classical.not_not, bet, decide_eq_decide] at this ⊢
  omega
/-- The uppermost goes below all others. -/
def und (l : List Int) : List Int := gt l (l.length - 1) :: l.take (l.length - 1)
theorem und_len {l : List Int} (h : 1 ≤ l.length) : (und l).length = l.length := by
  simp [und]
  omega
theorem und_at {l : List Int} (h : 1 ≤ l.length) {j : Nat} (hj : j < l.length) : gt (und l) (if j = l.length - 1 then 0 else j + 1) = gt l j := by
  split
  · rename_i e
    simp [und, gt, e]
  · rename_i e
    have h2 : j < (l.take (l.length - 1)).length := by rw [List.length_take]; omega
    show gt (gt l (l.length - 1) :: l.take (l.length - 1)) (j + 1) = gt l j
    have : gt (gt l (l.length - 1) :: l.take (l.length - 1)) (j + 1) = gt (l.take (l.length - 1)) j := by simp [gt]
    rw [this, gt_lt h2, gt_lt hj, List.getElem_take]
theorem prm_und {l : List Int} (h1 : 1 ≤ l.length) (h : Prm l) : Prm (und l) := fun s ha hb => by
  rw [und_len h1] at hb
  obtain ⟨j, hj, e⟩ := mem_gt (h s ha hb)
  rw [← e, ← und_at h1 hj]
  apply gt_mem
  rw [und_len h1]
  split <;> omega
theorem hk_und {l : List Int} (h1 : 1 ≤ l.length) (h : Prm l) {s : Nat} (hs : s < l.length) : hk (und l) s = if hk l s = (l.length : Int) - 1 then 0 else hk l s + 1 := by
  obtain ⟨j, hj, e, hv⟩ := at_hk h hs
  have hu := und_at h1 hj
  have hj2 : (if j = l.length - 1 then 0 else j + 1) < (und l).length := by
    rw [und_len h1]
    split <;> omega
  rw [hk_of (prm_und h1 h) hj2 (hu.trans e), hv]
  split <;> split <;> omega
theorem gd_und {l : List Int} (h1 : 1 ≤ l.length) (h : Prm l) (hg : gdB l = true) : gdB (und l) = true := by
  rw [gd_iff] at hg ⊢
  intro i k h2 h3 h4
  rw [und_len h1] at h3
  have := hg i k h2 h3 h4
  have a1 : hk l i ≠ hk l k := fun e => by have := hk_inj h (by omega) (by omega) e; omega
  have a2 : hk l i ≠ hk l (k + 1) := fun e => by have := hk_inj h (by omega) (by omega) e; omega
  have a3 : hk l (i + 1) ≠ hk l k := fun e => by have := hk_inj h (by omega) (by omega) e; omega
  have a4 : hk l (i + 1) ≠ hk l (k + 1) := fun e => by have := hk_inj h (by omega) (by omega) e; omega
  have a5 : hk l i ≠ hk l (i + 1) := fun e => by have := hk_inj h (by omega) (by omega) e; omega
  have a6 : hk l k ≠ hk l (k + 1) := fun e => by have := hk_inj h (by omega) (by omega) e; omega
  have b1 := hk_bd h (k := i) (by omega)
  have b2 := hk_bd h (k := i + 1) (by omega)
  have b3 := hk_bd h (k := k) (by omega)
  have b4 := hk_bd h (k := k + 1) (by omega)
  unfold crB at this ⊢
  rw [hk_und h1 h (by omega), hk_und h1 h (by omega), hk_und h1 h (by omega), hk_und h1 h (by omega)]
  rw [Bool.eq_false_iff] at this ⊢
  simp only [bne_iff_ne, ne_eq, Classical.not_not, bet, decide_eq_decide] at this ⊢
  generalize hk l i = a at *
  generalize hk l (i + 1) = b at *
  generalize hk l k = c at *
  generalize hk l (k + 1) = d at *
  split <;> split <;> split <;> split <;> omega
end Go.Proofs.Ytdflindoemffaaa
