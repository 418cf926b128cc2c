/- root (sort.Search), the reference's squareRoot. -/
import Derived.Test.YtohnppjbmpaomaaTurn
namespace Go.Proofs.Ytohnppjbmpaomaa
open Go.RowKit

theorem sq_le_sq {a b : Nat} (h : a ≤ b) : (a : Int) * (a : Int) ≤ (b : Int) * (b : Int) := by
  have := Nat.mul_le_mul h h
  exact_mod_cast this
theorem sq_lt_sq {a b : Nat} (h : a < b) : (a : Int) * (a : Int) < (b : Int) * (b : Int) := by
  have : a * a < b * b := Nat.mul_lt_mul'' h h
  exact_mod_cast this
theorem closure45 (r : Nat) (n : Int) (g : Nat) (w : World) (hr : r ≤ 2000000) (hg : w.cell? ⟨g, 0, none⟩ = some (.int .i64 n)) :
    Calls Try.prog 45 #[.int .i64 (r : Int), .pointer (some ⟨g, 0, none⟩)] w fun e w' => e = .returned (.bool (decide (n ≤ (r : Int) * (r : Int)))) ∧ Below w.heap.size w w' := by
  have h1 := sq_le_sq (show r ≤ 2000000 from hr)
  have h2 := sq_nn (r : Int)
  have h3 : (r : Int) * (r : Int) ≤ 4000000000000 := h1
  have zg := World.block_lt_of_cell? _ _ hg
  have e1 : wrap64 ((r : Int) * (r : Int)) = (r : Int) * (r : Int) := w64 _ (by omega)
  clear h1
  go_enter Try.func45, Try.ntmps45
  go_wp2
  go_ret
  exact ⟨rfl, bl_refl _⟩
/-- What a search for the root finds. -/
def SrT (n : Int) (r : Nat) : Prop := r ≤ 2000000 ∧ (∀ t : Nat, t < r → (t : Int) * (t : Int) < n) ∧ ∀ t : Nat, r ≤ t → t < 2000000 → n ≤ (t : Int) * (t : Int)
set_option maxRecDepth 100000 in
set_option maxHeartbeats 1600000 in
theorem search44 (g : Nat) (n : Int) (w : World) (hg : w.cell? ⟨g, 0, none⟩ = some (.int .i64 n)) :
    Calls Try.prog 44 #[.int .i64 2000000, .func (.func 45) #[] #[.pointer (some ⟨g, 0, none⟩)]] w fun e w' => ∃ r : Nat, e = .returned (.int .i64 (r : Int)) ∧ SrT n r ∧ Below w.heap.size w w' := by
  have CC : Hid (∀ (r : Nat) (W : World), r ≤ 2000000 → Below w.heap.size w W → Calls Try.prog 45 #[.int .i64 (r : Int), .pointer (some ⟨g, 0, none⟩)] W fun e w' => e = .returned (.bool (decide (n ≤ (r : Int) * (r : Int)))) ∧ Below W.heap.size W w') := fun r W hr hW => closure45 r n g W hr (cl_kept hW hg)
  clear hg
  go_enter Try.func44, Try.ntmps44
  go_wp2
  go_loopg [5, 6] 2000000 (fun gk s5 s6 wx => ∃ lo hi : Nat, s5 = .int .i64 (lo : Int) ∧ s6 = .int .i64 (hi : Int) ∧ lo ≤ hi ∧ hi ≤ 2000000 ∧ gk = hi - lo ∧ Hid (Below w.heap.size w wx ∧ (∀ t : Nat, t < lo → (t : Int) * (t : Int) < n) ∧ ∀ t : Nat, hi ≤ t → t < 2000000 → n ≤ (t : Int) * (t : Int)))
  case atStart => exact ⟨0, 2000000, rfl, rfl, by omega, by omega, rfl, ⟨bl_refl _, fun t ht => by omega, fun t h1 h2 => by omega⟩⟩
  case round =>
    obtain ⟨lo, hi, rfl, rfl, hlh, hin, rfl, I⟩ := hrel
    by_cases hlt : lo < hi
    · have hc := CC.out ((lo + hi) / 2) wr (by omega) I.out.1
      rw [show (((lo + hi) / 2 : Nat) : Int) = ((lo : Int) + (hi : Int)) / 2 by omega] at hc
      have hm : Hid (((lo + hi) / 2 : Nat) < hi ∧ lo ≤ (lo + hi) / 2) := (by omega : (lo + hi) / 2 < hi ∧ lo ≤ (lo + hi) / 2)
      obtain ⟨kb, hkb⟩ : ∃ b, b = decide (n ≤ (((lo : Int) + (hi : Int)) / 2) * (((lo : Int) + (hi : Int)) / 2)) := ⟨_, rfl⟩
      rw [← hkb] at hc
      have HK : Hid (kb = decide (n ≤ (((lo : Int) + (hi : Int)) / 2) * (((lo : Int) + (hi : Int)) / 2))) := hkb
      have HC : Hid (Calls Try.prog 45 #[.int .i64 (((lo : Int) + (hi : Int)) / 2), .pointer (some ⟨g, 0, none⟩)] wr fun e w' => e = .returned (.bool kb) ∧ Below wr.heap.size wr w') := hc
      clear hkb hc
      cases kb
      · have HN : Hid (∀ t : Nat, t < (lo + hi) / 2 + 1 → (t : Int) * (t : Int) < n) := fun t ht => by
          have h1 := of_decide_eq_false HK.out.symm
          rw [show ((lo : Int) + (hi : Int)) / 2 = (((lo + hi) / 2 : Nat) : Int) by omega] at h1
          have h2 := sq_le_sq (show t ≤ (lo + hi) / 2 by omega)
          omega
        go_wp2_with (go_at_call 45; refine HC.out.mono ?_; rintro e w1 ⟨rfl, hb⟩)
        go_roundg (hi - ((lo + hi) / 2 + 1))
        case measure => omega
        case rel => exact ⟨(lo + hi) / 2 + 1, hi, by rw [show ((lo : Int) + (hi : Int)) / 2 + 1 = (((lo + hi) / 2 + 1 : Nat) : Int) by omega], rfl, by omega, hin, rfl, ⟨bl_via I.out.1 hb, HN.out, I.out.2.2⟩⟩
      · have HN : Hid (∀ t : Nat, (lo + hi) / 2 ≤ t → t < 2000000 → n ≤ (t : Int) * (t : Int)) := fun t ht _ => by
          have h1 := of_decide_eq_true HK.out.symm
          rw [show ((lo : Int) + (hi : Int)) / 2 = (((lo + hi) / 2 : Nat) : Int) by omega] at h1
          have h2 := sq_le_sq ht
          omega
        go_wp2_with (go_at_call 45; refine HC.out.mono ?_; rintro e w1 ⟨rfl, hb⟩)
        go_roundg ((lo + hi) / 2 - lo)
        case measure => omega
        case rel => exact ⟨lo, (lo + hi) / 2, rfl, by rw [show ((lo : Int) + (hi : Int)) / 2 = (((lo + hi) / 2 : Nat) : Int) by omega], by omega, by omega, rfl, ⟨bl_via I.out.1 hb, I.out.2.1, HN.out⟩⟩
    · obtain rfl : hi = lo := by omega
      go_wp2
      go_ret
      exact ⟨hi, rfl, ⟨hin, I.out.2.1, I.out.2.2⟩, I.out.1⟩
set_option maxRecDepth 100000 in
set_option maxHeartbeats 1600000 in
theorem root29 (n : Int) (w : World) (_h0 : 0 ≤ n) (_h1 : n ≤ 4000000000000) :
    Calls Try.prog 29 #[.int .i64 n] w fun e w' => ∃ r : Nat, e = .returned (.tuple #[.int .i64 (r : Int), .bool ((r : Int) * (r : Int) == n)]) ∧ SrT n r ∧ Below w.heap.size w w' := by
  have CS : Hid (∀ (g : Nat) (W : World), W.cell? ⟨g, 0, none⟩ = some (.int .i64 n) → Calls Try.prog 44 #[.int .i64 2000000, .func (.func 45) #[] #[.pointer (some ⟨g, 0, none⟩)]] W fun e w' => ∃ r : Nat, e = .returned (.int .i64 (r : Int)) ∧ SrT n r ∧ Below W.heap.size W w') := fun g W h => search44 g n W h
  go_enter Try.func29, Try.ntmps29
  go_wp2_with (go_at_call 44; refine (CS.out _ _ (by simp [go_sem])).mono ?_; rintro e w1 ⟨r, rfl, hs, hb⟩; have n0 : w1.cell? ⟨w.heap.size, 0, none⟩ = some (.int .i64 n) := cl_kept hb (by simp [go_sem]); have HS : Hid (SrT n r ∧ Below w.heap.size w w1) := ⟨hs, bl_via (bl_alloc (bl_refl _)) hb⟩; clear hs hb)
  have h2 := sq_nn (r : Int)
  have h3 : (r : Int) * (r : Int) ≤ 4000000000000 := sq_le_sq (show r ≤ 2000000 from HS.out.1.1)
  have e1 : IntKind.i64.wrap ((r : Int) * (r : Int)) = (r : Int) * (r : Int) := by rw [IntKind.wrap_i64]; omega
  have zg := World.block_lt_of_cell? _ _ n0
  clear h2 h3
  go_region
  go_wp2
  refine bodyPost_ret (v := .tuple #[_, _]) (by simp [results, Try.results29, go_sem]) rfl ⟨r, rfl, HS.out.1, bl_drew HS.out.2⟩
theorem root_yes (ρ : Nat) (n : Int) (w : World) (h : n = (ρ : Int) * (ρ : Int)) (hρ : ρ ≤ 2000000) :
    Calls Try.prog 29 #[.int .i64 n] w fun e w' => e = .returned (.tuple #[.int .i64 (ρ : Int), .bool true]) ∧ Below w.heap.size w w' := by
  refine (root29 n w (by rw [h]; exact sq_nn _) (by rw [h]; exact sq_le_sq hρ)).mono ?_
  rintro e w' ⟨r, rfl, ⟨h1, h2, h3⟩, hb⟩
  have : r = ρ := by
    rcases Nat.lt_trichotomy r ρ with k | k | k
    · exfalso
      have := h3 r (Nat.le_refl _) (by omega)
      have := sq_lt_sq k
      omega
    · exact k
    · exfalso
      have := h2 ρ k
      omega
  subst this
  exact ⟨by rw [h]; simp, hb⟩
theorem root_no (n : Int) (w : World) (h0 : 0 ≤ n) (h1 : n ≤ 4000000000000) (h : ∀ ρ : Nat, n ≠ (ρ : Int) * (ρ : Int)) :
    Calls Try.prog 29 #[.int .i64 n] w fun e w' => ∃ r : Int, e = .returned (.tuple #[.int .i64 r, .bool false]) ∧ Below w.heap.size w w' := by
  refine (root29 n w h0 h1).mono ?_
  rintro e w' ⟨r, rfl, _, hb⟩
  have : ((r : Int) * (r : Int) == n) = false := by
    rw [beq_eq_false_iff_ne]
    exact fun e => h r e.symm
  exact ⟨r, by rw [this], hb⟩
set_option maxRecDepth 100000 in
set_option maxHeartbeats 1600000 in
theorem sqrt35 (n : Int) (w : World) (h0 : 0 ≤ n) (h1 : n ≤ 4000000000000) :
    Calls Try.prog 35 #[.int .i64 n] w fun e w' => ∃ r : Nat, e = .returned (.tuple #[.int .i64 (r : Int), .bool ((r : Int) * (r : Int) == n)]) ∧ ((r : Int) * (r : Int) ≤ n ∧ n < ((r + 1 : Nat) : Int) * ((r + 1 : Nat) : Int)) ∧ Below w.heap.size w w' := by
  have HN : Hid (0 ≤ n ∧ n ≤ 4000000000000) := ⟨h0, h1⟩
  clear h0 h1
  go_enter Try.func35, Try.ntmps35
  go_wp2
  go_loopg [4, 5] 3000000 (fun gk s4 s5 wx => ∃ lo hi : Nat, s4 = .int .i64 (lo : Int) ∧ s5 = .int .i64 (hi : Int) ∧ lo ≤ hi ∧ hi ≤ 3000000 ∧ gk = hi - lo ∧ Hid (Below w.heap.size w wx ∧ (lo : Int) * (lo : Int) ≤ n ∧ n < ((hi + 1 : Nat) : Int) * ((hi + 1 : Nat) : Int)))
  case atStart => exact ⟨0, 3000000, rfl, rfl, by omega, by omega, rfl, ⟨bl_refl _, by have := HN.out; omega, by have := HN.out; omega⟩⟩
  case round =>
    obtain ⟨lo, hi, rfl, rfl, hlh, hin, rfl, I⟩ := hrel
    by_cases hlt : lo < hi
    · obtain ⟨m, hm⟩ : ∃ m : Nat, m = (lo + hi + 1) / 2 := ⟨_, rfl⟩
      have em : ((lo : Int) + (hi : Int) + 1) / 2 = (m : Int) := by omega
      have et : ((lo : Int) + (hi : Int) + 1).tdiv 2 = (m : Int) := by rw [Int.tdiv_eq_ediv_of_nonneg (by omega)]; omega
      have m1 : lo < m := by omega
      have m2 : m ≤ hi := by omega
      have h2 := sq_nn (m : Int)
      have h3 : (m : Int) * (m : Int) ≤ 9000000000000 := sq_le_sq (show m ≤ 3000000 by omega)
      have e1 : wrap64 ((m : Int) * (m : Int)) = (m : Int) * (m : Int) := w64 _ (by omega)
      clear hm
      by_cases hk : (m : Int) * (m : Int) ≤ n
      · have HB : Hid (Below w.heap.size w wr ∧ (m : Int) * (m : Int) ≤ n ∧ n < ((hi + 1 : Nat) : Int) * ((hi + 1 : Nat) : Int)) := ⟨I.out.1, hk, I.out.2.2⟩
        clear h2 h3
        go_wp2
        go_roundg (hi - m)
        case measure => omega
        case rel => exact ⟨m, hi, rfl, rfl, m2, hin, rfl, HB.out⟩
      · obtain ⟨j, hj⟩ : ∃ j, m = j + 1 := ⟨m - 1, by omega⟩
        have HB : Hid (Below w.heap.size w wr ∧ (lo : Int) * (lo : Int) ≤ n ∧ n < ((j + 1 : Nat) : Int) * ((j + 1 : Nat) : Int)) := ⟨I.out.1, I.out.2.1, by rw [← hj]; omega⟩
        have HJ : Hid (m = j + 1) := hj
        clear h2 h3 hj
        go_wp2
        go_roundg (j - lo)
        case measure => have := HJ.out; omega
        case rel => exact ⟨lo, j, rfl, by have := HJ.out; go_num, by have := HJ.out; omega, by have := HJ.out; omega, rfl, HB.out⟩
    · obtain rfl : hi = lo := by omega
      have h2 := sq_nn (hi : Int)
      have h3 : (hi : Int) * (hi : Int) ≤ 9000000000000 := sq_le_sq (show hi ≤ 3000000 by omega)
      have e1 : wrap64 ((hi : Int) * (hi : Int)) = (hi : Int) * (hi : Int) := w64 _ (by omega)
      clear h2 h3
      go_wp2
      refine bodyPost_ret (v := .tuple #[_, _]) (by simp [results, Try.results35, go_sem]) rfl ⟨hi, rfl, I.out.2, I.out.1⟩
theorem sqrt_yes (ρ : Nat) (n : Int) (w : World) (h : n = (ρ : Int) * (ρ : Int)) (hρ : ρ ≤ 2000000) :
    Calls Try.prog 35 #[.int .i64 n] w fun e w' => e = .returned (.tuple #[.int .i64 (ρ : Int), .bool true]) ∧ Below w.heap.size w w' := by
  refine (sqrt35 n w (by rw [h]; exact sq_nn _) (by rw [h]; exact sq_le_sq hρ)).mono ?_
  rintro e w' ⟨r, rfl, ⟨h1, h2⟩, hb⟩
  have : r = ρ := by
    rcases Nat.lt_trichotomy r ρ with k | k | k
    · exfalso
      have := sq_le_sq (show r + 1 ≤ ρ by omega)
      omega
    · exact k
    · exfalso
      have := sq_lt_sq k
      omega
  subst this
  exact ⟨by rw [h]; simp, hb⟩
theorem sqrt_no (n : Int) (w : World) (h0 : 0 ≤ n) (h1 : n ≤ 4000000000000) (h : ∀ ρ : Nat, n ≠ (ρ : Int) * (ρ : Int)) :
    Calls Try.prog 35 #[.int .i64 n] w fun e w' => ∃ r : Int, e = .returned (.tuple #[.int .i64 r, .bool false]) ∧ Below w.heap.size w w' := by
  refine (sqrt35 n w h0 h1).mono ?_
  rintro e w' ⟨r, rfl, _, hb⟩
  have : ((r : Int) * (r : Int) == n) = false := by
    rw [beq_eq_false_iff_ne]
    exact fun e => h r e.symm
  exact ⟨r, by rw [this], hb⟩
end Go.Proofs.Ytohnppjbmpaomaa
