/- The reference's small functions: within, heightOf, between; counted. -/
import Derived.Test.YtdflindoemffaaaBase
namespace Go.Proofs.Ytdflindoemffaaa
open Go.RowKit

/-- Between, by numbers. -/
def bet (h a b : Int) : Bool := decide (a < h ∧ h < b ∨ b < h ∧ h < a)
/-- The height of a stamp. -/
def hg (l : List Int) (s : Int) : Int := ((l.idxOf s : Nat) : Int)
theorem idx_eq {s : Int} : ∀ {l : List Int} {i : Nat}, (∀ k, k < i → gt l k ≠ s) → i < l.length → gt l i = s → l.idxOf s = i
  | [], _, _, h, _ => by simp at h
  | x :: l, 0, _, _, h => by
    simp [gt] at h
    simp [h]
  | x :: l, i + 1, h1, h2, h3 => by
    have h0 : x ≠ s := by simpa [gt] using h1 0 (by omega)
    have := idx_eq (s := s) (l := l) (i := i) (fun k hk => by simpa [gt] using h1 (k + 1) (by omega)) (by simpa using h2) (by simpa [gt] using h3)
    have hb : (x == s) = false := by rw [beq_eq_false_iff_ne]; exact h0
    rw [List.idxOf_cons, this, hb]
    rfl
theorem gt_mem {l : List Int} {i : Nat} (h : i < l.length) : gt l i ∈ l := by rw [gt_lt h]; exact List.getElem_mem h
theorem mem_gt {l : List Int} {s : Int} (h : s ∈ l) : ∃ i, i < l.length ∧ gt l i = s := by
  obtain ⟨k, hk, e⟩ := List.getElem_of_mem h
  exact ⟨k, hk, by rw [gt_lt hk, e]⟩
theorem betw_any (h a b : Int) (w : World) :
    Calls Try.prog 27 #[.int .i64 h, .int .i64 a, .int .i64 b] w fun e w' => e = .returned (.bool (bet h a b)) ∧ Below w.heap.size w w' := by
  go_enter Try.func27, Try.ntmps27
  go_wp2
  all_goals
    go_ret
    exact ⟨ret_bool (by rw [Bool.eq_iff_iff]; simp [bet] <;> omega), bl_refl _⟩
def cntB (n : Int) : Bool := decide (1 ≤ n) && decide (n ≤ 8)
theorem counted_any (n : Int) (w : World) :
    Calls Try.prog 28 #[.int .i64 n] w fun e w' => e = .returned (.bool (cntB n)) ∧ Below w.heap.size w w' := by
  go_enter Try.func28, Try.ntmps28
  go_wp2
  all_goals
    go_ret
    exact ⟨ret_bool (by rw [Bool.eq_iff_iff]; simp [cntB] <;> omega), bl_refl _⟩
set_option maxRecDepth 100000 in
set_option maxHeartbeats 800000 in
theorem within_any (v : Value) (l : List Int) (s : Int) (w : World) (hv : Sg w v l) (hl : l.length ≤ 17592186044416) :
    Calls Try.prog 25 #[v, .int .i64 s] w fun e w' => e = .returned (.bool (l.contains s)) ∧ Below w.heap.size w w' := by
  obtain ⟨a, c, rfl, hR⟩ := hv
  have HR : Hid (∀ i, i < l.length → ∃ g off, a = some ⟨g, off, none⟩ ∧ w.cell? ⟨g, off + i, none⟩ = some (.int .i64 (gt l i))) := hR
  obtain ⟨cb, hcb⟩ : ∃ b, b = l.contains s := ⟨_, rfl⟩
  have HC : Hid (cb = l.contains s) := hcb
  rw [← hcb]
  clear hR hcb
  go_enter Try.func25, Try.ntmps25
  go_wp2
  go_loopg [5] l.length (fun gk s5 wx => ∃ i : Nat, i ≤ l.length ∧ gk = l.length - i ∧ s5 = .int .i64 (i : Int) ∧ Below w.heap.size w wx ∧ ∀ k, k < i → gt l k ≠ s)
  case atStart => exact ⟨0, by omega, rfl, rfl, bl_refl _, fun k hk => by omega⟩
  case round =>
    obtain ⟨i, hi, rfl, rfl, hB, hno⟩ := hrel
    have HB : Hid (Below w.heap.size w wr ∧ ∀ k, k < i → gt l k ≠ s) := ⟨hB, hno⟩
    clear hB hno
    by_cases h1 : i < l.length
    · have i1 : (i : Int) < (l.length : Int) := by omega
      have i0 : (0 : Int) ≤ (i : Int) := by omega
      obtain ⟨g, off, rfl, c0⟩ := HR.out i h1
      replace c0 := cl_kept HB.out.1 c0
      have zg : g < wr.heap.size := World.block_lt_of_cell? _ _ c0
      obtain ⟨vi, hvi⟩ : ∃ v, v = gt l i := ⟨_, rfl⟩
      rw [← hvi] at c0
      have HVI : Hid (vi = gt l i) := hvi
      clear hvi
      cases q : (vi == s)
      · have HN : Hid (∀ k, k < i + 1 → gt l k ≠ s) := fun k hk => by
          by_cases hki : k < i
          · exact HB.out.2 k hki
          · have : k = i := by omega
            rw [this, ← HVI.out]
            simpa using q
        go_wp2
        go_roundg (l.length - (i + 1))
        case measure => omega
        case rel => exact ⟨i + 1, by omega, rfl, by go_num, HB.out.1, HN.out⟩
      · have HE : Hid (cb = true) := by
          have : cb = true := by
            rw [HC.out, List.contains_iff_mem, ← (by simpa using q : vi = s), HVI.out]
            exact gt_mem h1
          exact this
        go_wp2
        go_ret
        exact ⟨ret_bool HE.out.symm, HB.out.1⟩
    · have i1 : ¬ (i : Int) < (l.length : Int) := by omega
      obtain rfl : i = l.length := by omega
      have HE : Hid (cb = false) := by
        have : cb = false := by
          rw [HC.out, Bool.eq_false_iff]
          intro h
          rw [List.contains_iff_mem] at h
          obtain ⟨k, hk, e⟩ := mem_gt h
          exact HB.out.2 k hk e
        exact this
      go_wp2
      go_ret
      exact ⟨ret_bool HE.out.symm, HB.out.1⟩
set_option maxRecDepth 100000 in
set_option maxHeartbeats 800000 in
theorem heightOf_any (v : Value) (l : List Int) (s : Int) (w : World) (hv : Sg w v l) (hl : l.length ≤ 17592186044416) (hm : s ∈ l) :
    Calls Try.prog 26 #[v, .int .i64 s] w fun e w' => e = .returned (.int .i64 (hg l s)) ∧ Below w.heap.size w w' := by
  obtain ⟨a, c, rfl, hR⟩ := hv
  have HR : Hid (∀ i, i < l.length → ∃ g off, a = some ⟨g, off, none⟩ ∧ w.cell? ⟨g, off + i, none⟩ = some (.int .i64 (gt l i))) := hR
  have HM : Hid (∃ i, i < l.length ∧ gt l i = s) := mem_gt hm
  obtain ⟨hv, hhv⟩ : ∃ b, b = hg l s := ⟨_, rfl⟩
  have HC : Hid (hv = hg l s) := hhv
  rw [← hhv]
  clear hR hhv hm
  go_enter Try.func26, Try.ntmps26
  go_wp2
  go_loopg [5] l.length (fun gk s5 wx => ∃ i : Nat, i ≤ l.length ∧ gk = l.length - i ∧ s5 = .int .i64 (i : Int) ∧ Below w.heap.size w wx ∧ ∀ k, k < i → gt l k ≠ s)
  case atStart => exact ⟨0, by omega, rfl, rfl, bl_refl _, fun k hk => by omega⟩
  case round =>
    obtain ⟨i, hi, rfl, rfl, hB, hno⟩ := hrel
    have HB : Hid (Below w.heap.size w wr ∧ ∀ k, k < i → gt l k ≠ s) := ⟨hB, hno⟩
    clear hB hno
    by_cases h1 : i < l.length
    · have i1 : (i : Int) < (l.length : Int) := by omega
      have i0 : (0 : Int) ≤ (i : Int) := by omega
      obtain ⟨g, off, rfl, c0⟩ := HR.out i h1
      replace c0 := cl_kept HB.out.1 c0
      have zg : g < wr.heap.size := World.block_lt_of_cell? _ _ c0
      obtain ⟨vi, hvi⟩ : ∃ v, v = gt l i := ⟨_, rfl⟩
      rw [← hvi] at c0
      have HVI : Hid (vi = gt l i) := hvi
      clear hvi
      cases q : (vi == s)
      · have HN : Hid (∀ k, k < i + 1 → gt l k ≠ s) := fun k hk => by
          by_cases hki : k < i
          · exact HB.out.2 k hki
          · have : k = i := by omega
            rw [this, ← HVI.out]
            simpa using q
        go_wp2
        go_roundg (l.length - (i + 1))
        case measure => omega
        case rel => exact ⟨i + 1, by omega, rfl, by go_num, HB.out.1, HN.out⟩
      · have HE : Hid (hv = (i : Int)) := by
          have : hv = (i : Int) := by
            rw [HC.out, hg, idx_eq HB.out.2 h1 (by rw [← HVI.out]; simpa using q)]
          exact this
        go_wp2
        go_ret
        exact ⟨ret_int HE.out.symm, HB.out.1⟩
    · exfalso
      obtain ⟨k, hk, e⟩ := HM.out
      exact HB.out.2 k (by omega) e
end Go.Proofs.Ytdflindoemffaaa
