/- Orders of stamps: each of 1 to n once; ties; kinds: the mathematics. -/
import Derived.Test.YtdflindoemffaaaRefs
namespace Go.Proofs.Ytdflindoemffaaa

/-- Fewer numbers than n: one of 1 to n is not among them. -/
theorem missing : ∀ (n : Nat) (l : List Int), l.length < n → ∃ s : Nat, 1 ≤ s ∧ s ≤ n ∧ (s : Int) ∉ l
  | 0, l, h => by omega
  | n + 1, l, h => by
    by_cases hm : ((n + 1 : Nat) : Int) ∈ l
    · have hl := List.length_erase_of_mem hm
      have hp : 0 < l.length := List.length_pos_of_mem hm
      obtain ⟨s, h1, h2, h3⟩ := missing n (l.erase ((n + 1 : Nat) : Int)) (by omega)
      refine ⟨s, h1, by omega, fun hs => h3 ?_⟩
      exact (List.mem_erase_of_ne (by omega)).2 hs
    · exact ⟨n + 1, by omega, by omega, hm⟩
def Prm (l : List Int) : Prop := ∀ s : Nat, 1 ≤ s → s ≤ l.length → (s : Int) ∈ l
def prmB (l : List Int) : Bool := (List.range l.length).all fun s => l.contains ((s : Int) + 1)
theorem prm_iff (l : List Int) : prmB l = true ↔ Prm l := by
  simp only [prmB, List.all_eq_true, List.mem_range, List.contains_iff_mem]
  constructor
  · intro h s h1 h2
    have := h (s - 1) (by omega)
    rwa [show ((s - 1 : Nat) : Int) + 1 = (s : Int) by omega] at this
  · intro h s hs
    have := h (s + 1) (by omega) (by omega)
    rwa [show ((s + 1 : Nat) : Int) = (s : Int) + 1 by omega] at this
theorem gt_mem_erase {l : List Int} {i k : Nat} (_hi : i < l.length) (hk : k < l.length) (hne : k ≠ i) : gt l k ∈ l.eraseIdx i := by
  rw [List.mem_eraseIdx_iff_getElem]
  exact ⟨k, hk, hne, (gt_lt hk).symm⟩
/-- What may be struck out is not needed. -/
theorem Prm.need {l : List Int} (h : Prm l) {i : Nat} (hi : i < l.length) (hs : ∀ s : Nat, 1 ≤ s → s ≤ l.length → gt l i = (s : Int) → (s : Int) ∈ l.eraseIdx i) : False := by
  have hl : (l.eraseIdx i).length < l.length := by rw [List.length_eraseIdx_of_lt hi]; omega
  obtain ⟨s, h1, h2, h3⟩ := missing l.length (l.eraseIdx i) hl
  apply h3
  obtain ⟨k, hk, e⟩ := mem_gt (h s h1 h2)
  by_cases hki : k = i
  · subst hki
    exact hs s h1 h2 e
  · rw [← e]
    exact gt_mem_erase hi hk hki
theorem Prm.range {l : List Int} (h : Prm l) {i : Nat} (hi : i < l.length) : 1 ≤ gt l i ∧ gt l i ≤ (l.length : Int) := by
  by_cases c : 1 ≤ gt l i ∧ gt l i ≤ (l.length : Int)
  · exact c
  · exact (h.need hi fun s h1 h2 e => absurd ⟨by omega, by omega⟩ c).elim
theorem Prm.inj {l : List Int} (h : Prm l) {i k : Nat} (hi : i < l.length) (hk : k < l.length) (e : gt l k = gt l i) : k = i := by
  by_cases c : k = i
  · exact c
  · exact (h.need hi fun s h1 h2 e' => by rw [← e', ← e]; exact gt_mem_erase hi hk c).elim
/-- The other way: all within, no two alike. -/
theorem nodup_len : ∀ (l m : List Int), (∀ i k, i < l.length → k < l.length → gt l i = gt l k → i = k) → (∀ x ∈ l, x ∈ m) → l.length ≤ m.length
  | [], _, _, _ => by simp
  | x :: l, m, hd, hs => by
    have hx : x ∈ m := hs x (by simp)
    have hxl : x ∉ l := fun h => by
      obtain ⟨k, hk, e⟩ := mem_gt h
      have := hd 0 (k + 1) (by simp) (by simpa using hk) (by simp only [gt, List.getD_cons_zero, List.getD_cons_succ] at *; exact e.symm)
      omega
    have := nodup_len l (m.erase x) (fun i k hi hk e => by
      have := hd (i + 1) (k + 1) (by simpa using hi) (by simpa using hk) (by simpa only [gt, List.getD_cons_succ] using e)
      omega) (fun y hy => (List.mem_erase_of_ne (fun (e : y = x) => hxl (e ▸ hy))).2 (hs y (by simp [hy])))
    rw [List.length_erase_of_mem hx] at this
    have hp : 0 < m.length := List.length_pos_of_mem hx
    simp only [List.length_cons]
    omega
def up (n : Nat) : List Int := (List.range n).map fun i : Nat => (i : Int) + 1
theorem up_len (n : Nat) : (up n).length = n := by simp [up]
theorem prm_of {l : List Int} (hr : ∀ i, i < l.length → 1 ≤ gt l i ∧ gt l i ≤ (l.length : Int)) (hd : ∀ i k, i < l.length → k < l.length → gt l i = gt l k → i = k) : Prm l := by
  intro s h1 h2
  by_cases c : (s : Int) ∈ l
  · exact c
  · exfalso
    have hm : (s : Int) ∈ up l.length := by
      simp only [up, List.mem_map, List.mem_range]
      exact ⟨s - 1, by omega, by omega⟩
    have := nodup_len l ((up l.length).erase (s : Int)) hd (fun x hx => by
      refine (List.mem_erase_of_ne (fun (e : x = (s : Int)) => c (e ▸ hx))).2 ?_
      obtain ⟨k, hk, e⟩ := mem_gt hx
      have := hr k hk
      rw [e] at this
      simp only [up, List.mem_map, List.mem_range]
      exact ⟨(x - 1).toNat, by omega, by omega⟩)
    rw [List.length_erase_of_mem hm, up_len] at this
    omega
/-- What is wrong with a list. -/
def noV (l : List Int) : Int := if cntB (l.length : Int) = true then (if prmB l = true then 0 else 1) else 2
theorem hg_at {l : List Int} (h : Prm l) {i : Nat} (hi : i < l.length) : hg l (gt l i) = (i : Int) := by
  rw [hg, idx_eq (fun k hk e => ?_) hi rfl]
  have := h.inj hi (by omega) e
  omega
theorem hg_bd {l : List Int} (h : Prm l) {s : Nat} (h1 : 1 ≤ s) (h2 : s ≤ l.length) : 0 ≤ hg l (s : Int) ∧ hg l (s : Int) < (l.length : Int) := by
  have := List.idxOf_lt_length_of_mem (h s h1 h2)
  rw [hg]
  omega
theorem hg_inj {l : List Int} (h : Prm l) {s t : Nat} (h1 : 1 ≤ s) (h2 : s ≤ l.length) (h3 : 1 ≤ t) (h4 : t ≤ l.length) (e : hg l (s : Int) = hg l (t : Int)) : s = t := by
  obtain ⟨i, hi, ei⟩ := mem_gt (h s h1 h2)
  obtain ⟨k, hk, ek⟩ := mem_gt (h t h3 h4)
  have a := hg_at h hi
  have b := hg_at h hk
  rw [ei] at a
  rw [ek] at b
  have : i = k := by omega
  subst this
  rw [ei] at ek
  omega
/-- The height of stamp k + 1. -/
def hk (l : List Int) (k : Nat) : Int := hg l ((k : Int) + 1)
theorem hk_eq (l : List Int) (k : Nat) : hk l k = hg l ((k + 1 : Nat) : Int) := by rw [hk, show ((k + 1 : Nat) : Int) = (k : Int) + 1 by omega]
theorem hk_inj {l : List Int} (h : Prm l) {s t : Nat} (h2 : s < l.length) (h4 : t < l.length) (e : hk l s = hk l t) : s = t := by
  rw [hk_eq, hk_eq] at e
  have := hg_inj h (by omega) (by omega) (by omega) (by omega) e
  omega
theorem hk_bd {l : List Int} (h : Prm l) {k : Nat} (h1 : k < l.length) : 0 ≤ hk l k ∧ hk l k < (l.length : Int) := by
  rw [hk_eq]
  exact hg_bd h (by omega) (by omega)
/-- Tie k against tie i: does it go through? -/
def crB (l : List Int) (i k : Nat) : Bool := bet (hk l k) (hk l i) (hk l (i + 1)) != bet (hk l (k + 1)) (hk l i) (hk l (i + 1))
theorem cr_sym {l : List Int} (h : Prm l) {i k : Nat} (hik : i + 1 < k) (hk1 : k + 1 < l.length) : crB l i k = crB l k i := by
  have a1 : hk l i ≠ hk l k := fun e => by have := hk_inj h (by omega) (by omega) e; omega
  have a2 : hk l i ≠ hk l (k + 1) := fun e => by have := hk_inj h (by omega) (by omega) e; omega
  have a3 : hk l (i + 1) ≠ hk l k := fun e => by have := hk_inj h (by omega) (by omega) e; omega
  have a4 : hk l (i + 1) ≠ hk l (k + 1) := fun e => by have := hk_inj h (by omega) (by omega) e; omega
  have a5 : hk l i ≠ hk l (i + 1) := fun e => by have := hk_inj h (by omega) (by omega) e; omega
  have a6 : hk l k ≠ hk l (k + 1) := fun e => by have := hk_inj h (by omega) (by omega) e; omega
  unfold crB
  generalize hk l i = a at *
  generalize hk l (i + 1) = b at *
  generalize hk l k = c at *
  generalize hk l (k + 1) = d at *
  rw [Bool.eq_iff_iff]
  simp only [bne_iff_ne, ne_eq, bet]
  rw [decide_eq_decide, decide_eq_decide]
  omega
/-- No tie goes through another. -/
def gdB (l : List Int) : Bool := (List.range l.length).all fun i => (List.range l.length).all fun k => !(decide (i + 1 < k) && decide (k + 1 < l.length) && decide ((k - i) % 2 = 0) && crB l i k)
theorem gd_iff (l : List Int) : gdB l = true ↔ ∀ i k, i + 1 < k → k + 1 < l.length → (k - i) % 2 = 0 → crB l i k = false := by
  simp only [gdB, List.all_eq_true, List.mem_range]
  constructor
  · intro h i k h1 h2 h3
    have := h i (by omega) k (by omega)
    simpa [h1, h2, h3] using this
  · intro h i hi k hk'
    cases hc : (decide (i + 1 < k) && decide (k + 1 < l.length) && decide ((k - i) % 2 = 0))
    · simp
    · simp only [Bool.and_eq_true, decide_eq_true_eq] at hc
      simp [h i k hc.1.1 hc.1.2 hc.2]
/-- The kind of crease k + 1. -/
def kdV (l : List Int) (k : Nat) : Int := if decide (k % 2 = 0) = decide (hk l k < hk l (k + 1)) then 2 else 1
def kdL (l : List Int) : List Int := (List.range (l.length - 1)).map (kdV l)
theorem kdL_len (l : List Int) : (kdL l).length = l.length - 1 := by simp [kdL]
theorem kdL_at {l : List Int} {k : Nat} (h : k < l.length - 1) : gt (kdL l) k = kdV l k := by
  rw [gt_lt (by rw [kdL_len]; exact h)]
  simp [kdL]
end Go.Proofs.Ytdflindoemffaaa
