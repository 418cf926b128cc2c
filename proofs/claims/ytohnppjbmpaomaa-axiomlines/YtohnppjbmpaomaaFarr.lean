/- Numbers that are too far, straights that go nowhere. -/
import Derived.Test.YtohnppjbmpaomaaBase
namespace Go.Proofs.Ytohnppjbmpaomaa
open Go.RowKit

def far (n : Int) : Bool := decide (n < -1000) || decide (1000 < n)
theorem far_no {n : Int} : far n = false ↔ -1000 ≤ n ∧ n ≤ 1000 := by
  unfold far
  by_cases h1 : n < -1000 <;> by_cases h2 : 1000 < n <;> simp [h1, h2] <;> omega
theorem far51 (k : Int) (w : World) : Calls Try.prog 51 #[.int .i64 k] w fun e w' => e = .returned (.bool (far k)) ∧ Below w.heap.size w w' := by
  by_cases h1 : k < -1000
  · have q1 : decide (k < -1000) = true := by simpa using h1
    have q3 : far k = true := by simp [far, h1]
    go_enter Try.func51, Try.ntmps51
    go_wp2
    go_ret
    exact ⟨ret_bool (by first | rfl | rw [q3]), bl_refl _⟩
  · have q1 : decide (k < -1000) = false := by simpa using h1
    by_cases h2 : 1000 < k
    · have q2 : decide (1000 < k) = true := by simpa using h2
      have q3 : far k = true := by simp [far, h2]
      go_enter Try.func51, Try.ntmps51
      go_wp2
      go_ret
      exact ⟨ret_bool (by first | rfl | rw [q3]), bl_refl _⟩
    · have q2 : decide (1000 < k) = false := by simpa using h2
      have q3 : far k = false := by simp [far, h1, h2]
      go_enter Try.func51, Try.ntmps51
      go_wp2
      go_ret
      exact ⟨ret_bool (by first | rfl | rw [q3]), bl_refl _⟩
def IxF (l : List Int) (r : Int) : Prop := decide (0 ≤ r) = l.any far
theorem any_gt {l : List Int} {i : Nat} (h : i < l.length) (hf : far (gt l i) = true) : l.any far = true := by
  rw [gt_lt h] at hf
  exact List.any_eq_true.2 ⟨_, List.getElem_mem h, hf⟩
theorem any_not {l : List Int} (h : ∀ k, k < l.length → far (gt l k) = false) : l.any far = false := by
  rw [List.any_eq_false]
  intro x hx
  obtain ⟨i, hi, rfl⟩ := List.getElem_of_mem hx
  have := h i hi
  rw [gt_lt hi] at this
  simp [this]
set_option maxRecDepth 100000 in
set_option maxHeartbeats 800000 in
theorem index63 (v : Value) (l : List Int) (w : World) (hv : Sg w v l) (hl : l.length ≤ 17592186044416) :
    Calls Try.prog 63 #[v, .func (.func 51) #[] #[]] w fun e w' => ∃ r : Int, e = .returned (.int .i64 r) ∧ IxF l r ∧ Below w.heap.size w w' := by
  obtain ⟨a, c, rfl, hR⟩ := hv
  have HR : Hid (∀ i, i < l.length → ∃ g off, a = some ⟨g, off, none⟩ ∧ w.cell? ⟨g, off + i, none⟩ = some (.int .i64 (gt l i))) := hR
  have C51 : Hid (∀ (k : Int) (W : World), Calls Try.prog 51 #[.int .i64 k] W fun e w' => e = .returned (.bool (far k)) ∧ Below W.heap.size W w') := fun k W => far51 k W
  clear hR
  go_enter Try.func63, Try.ntmps63
  go_wp2
  go_loopg [8] l.length (fun gk s8 wx => ∃ i : Nat, i ≤ l.length ∧ gk = l.length - i ∧ s8 = .int .i64 (i : Int) ∧ Below w.heap.size w wx ∧ ∀ k, k < i → far (gt l k) = false)
  case atStart => exact ⟨0, by omega, rfl, rfl, bl_refl _, fun k hk => by omega⟩
  case round =>
    obtain ⟨i, hi, rfl, rfl, hB, hno⟩ := hrel
    have HB : Hid (Below w.heap.size w wr ∧ ∀ k, k < i → far (gt l k) = false) := ⟨hB, hno⟩
    clear hB hno
    by_cases h1 : i < l.length
    · have i1 : (i : Int) < (l.length : Int) := by omega
      have i0 : (0 : Int) ≤ (i : Int) := by omega
      obtain ⟨g, off, rfl, c0⟩ := HR.out i h1
      replace c0 := cl_kept HB.out.1 c0
      have zg : g < wr.heap.size := World.block_lt_of_cell? _ _ c0
      obtain ⟨vi, hvi⟩ : ∃ v, v = gt l i := ⟨_, rfl⟩
      rw [← hvi] at c0
      have HVI : Hid (vi = gt l i) := hvi
      clear hvi
      have C1 := C51.out vi
      obtain ⟨kb, hkb⟩ : ∃ b, b = far vi := ⟨_, rfl⟩
      rw [← hkb] at C1
      have HK : Hid (kb = far vi) := hkb
      have CH : Hid (∀ (W : World), Calls Try.prog 51 #[.int .i64 vi] W fun e w' => e = .returned (.bool kb) ∧ Below W.heap.size W w') := C1
      clear hkb C1
      cases kb
      · have HN : Hid (∀ k, k < i + 1 → far (gt l k) = false) := fun k hk => by
          by_cases hki : k < i
          · exact HB.out.2 k hki
          · have : k = i := by omega
            rw [this, ← HVI.out]
            exact HK.out.symm
        go_wp2_with (go_at_call 51; refine (CH.out _).mono ?_; rintro e w1 ⟨rfl, hb⟩)
        go_roundg (l.length - (i + 1))
        case measure => omega
        case rel => exact ⟨i + 1, by omega, rfl, by go_num, bl_via HB.out.1 hb, HN.out⟩
      · go_wp2_with (go_at_call 51; refine (CH.out _).mono ?_; rintro e w1 ⟨rfl, hb⟩)
        go_ret
        refine ⟨(i : Int), rfl, ?_, bl_via HB.out.1 hb⟩
        unfold IxF
        rw [any_gt h1 (by rw [← HVI.out]; exact HK.out.symm)]
        simp
    · have i1 : ¬ (i : Int) < (l.length : Int) := by omega
      obtain rfl : i = l.length := by omega
      go_wp2
      go_ret
      refine ⟨-1, rfl, ?_, HB.out.1⟩
      unfold IxF
      rw [any_not HB.out.2]
      simp
theorem contains50 (v : Value) (l : List Int) (w : World) (hv : Sg w v l) (hl : l.length ≤ 17592186044416) :
    Calls Try.prog 50 #[v, .func (.func 51) #[] #[]] w fun e w' => e = .returned (.bool (l.any far)) ∧ Below w.heap.size w w' := by
  have CI : Hid (Calls Try.prog 63 #[v, .func (.func 51) #[] #[]] w fun e w' => ∃ r : Int, e = .returned (.int .i64 r) ∧ IxF l r ∧ Below w.heap.size w w') := index63 v l w hv hl
  obtain ⟨a, c, rfl, hR⟩ := hv
  clear hR
  go_enter Try.func50, Try.ntmps50
  go_wp2_with (go_at_call 63; refine CI.out.mono ?_; rintro e w1 ⟨r, rfl, hr, hb⟩)
  go_ret
  exact ⟨ret_bool hr, hb⟩
theorem tooFar40 (v : Value) (l : List Int) (w : World) (hv : Sg w v l) (hl : l.length ≤ 17592186044416) :
    Calls Try.prog 40 #[v] w fun e w' => e = .returned (.bool (l.any far)) ∧ Below w.heap.size w w' := by
  have CI : Hid (Calls Try.prog 50 #[v, .func (.func 51) #[] #[]] w fun e w' => e = .returned (.bool (l.any far)) ∧ Below w.heap.size w w') := contains50 v l w hv hl
  obtain ⟨a, c, rfl, hR⟩ := hv
  clear hR
  go_enter Try.func40, Try.ntmps40
  go_wp2_with (go_at_call 50; refine CI.out.mono ?_; rintro e w1 ⟨rfl, hb⟩)
  go_ret
  exact ⟨rfl, hb⟩
/-- A straight. -/
def st (a b c : Int) : Value := .agg #[.int .i64 a, .int .i64 b, .int .i64 c]
/-- A point. -/
def pt (x y : Int) : Value := .agg #[.int .i64 x, .int .i64 y]
theorem built_sg {w : World} {g : Nat} {l : List Int} (h : ∀ i, i < l.length → w.cell? ⟨g, i, none⟩ = some (.int .i64 (gt l i))) (c : Nat) : Sg w (.slice (some ⟨g, 0, none⟩) l.length c) l := ⟨_, c, rfl, fun i hi => ⟨g, 0, rfl, by rw [Nat.zero_add]; exact h i hi⟩⟩
def wl (a b : Int) : Bool := a == 0 && b == 0
set_option maxRecDepth 100000 in
theorem wayless30 (a b c : Int) (w : World) : Calls Try.prog 30 #[st a b c] w fun e w' => e = .returned (.bool (wl a b)) ∧ Below w.heap.size w w' := by
  unfold st
  by_cases h1 : a = 0
  · subst h1
    go_enter Try.func30, Try.ntmps30
    go_wp2
    go_ret
    exact ⟨ret_bool (by simp [wl]), bl_alloc (bl_refl _)⟩
  · have q1 : (a == 0) = false := by simpa using h1
    go_enter Try.func30, Try.ntmps30
    go_wp2
    go_ret
    exact ⟨ret_bool (by simp [wl, h1]), bl_alloc (bl_refl _)⟩
set_option maxRecDepth 100000 in
theorem farLine42 (a b c : Int) (w : World) : Calls Try.prog 42 #[st a b c] w fun e w' => e = .returned (.bool ([a, b, c].any far)) ∧ Below w.heap.size w w' := by
  unfold st
  have C40 : Hid (∀ (g : Nat) (W : World), (∀ i, i < 3 → W.cell? ⟨g, i, none⟩ = some (.int .i64 (gt [a, b, c] i))) → Calls Try.prog 40 #[.slice (some ⟨g, 0, none⟩) 3 3] W fun e w' => e = .returned (.bool ([a, b, c].any far)) ∧ Below W.heap.size W w') := fun g W h => tooFar40 _ [a, b, c] W (built_sg (l := [a, b, c]) h 3) (by simp)
  obtain ⟨kb, hkb⟩ : ∃ x, x = [a, b, c].any far := ⟨_, rfl⟩
  rw [← hkb] at C40 ⊢
  clear hkb
  go_enter Try.func42, Try.ntmps42
  go_wp2_with (go_at_call 40; refine (C40.out _ _ ?_).mono ?_; · intro i hi; have : i = 0 ∨ i = 1 ∨ i = 2 := by omega
                                                                 rcases this with rfl | rfl | rfl <;> simp [go_sem, gt]
               rintro e w1 ⟨rfl, hb⟩)
  go_ret
  exact ⟨rfl, bl_via (bl_alloc (bl_alloc (bl_refl _))) hb⟩
end Go.Proofs.Ytohnppjbmpaomaa
