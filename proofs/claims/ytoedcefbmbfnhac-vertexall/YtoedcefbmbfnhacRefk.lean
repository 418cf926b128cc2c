/- The reference's KindsNumber and kindsOf. -/
import Derived.Test.YtoedcefbmbfnhacRefa
namespace Go.Proofs.Ytoedcefbmbfnhac
open Go.RowKit

theorem numK_bd {ks : List Int} {n : Nat} (h : ∀ i, i < n → gt ks i = 1 ∨ gt ks i = 2) : ∀ i, i ≤ n → 0 ≤ numK ks i ∧ numK ks i < 2 ^ i
  | 0, _ => by simp [numK]
  | i + 1, hi => by
    have ih := numK_bd h i (by omega)
    have := h i (by omega)
    unfold numK
    rw [Int.pow_succ]
    omega
theorem kN_bd (n : Nat) (G : List Int) : ∀ i, 0 ≤ kN n G i ∧ kN n G i < 2 ^ i
  | 0 => by simp [kN]
  | i + 1 => by
    have ih := kN_bd n G i
    unfold kN
    rw [Int.pow_succ]
    split <;> omega
theorem pow8 {i : Nat} (h : i ≤ 8) : (2 : Int) ^ i ≤ 256 := by
  have : i = 0 ∨ i = 1 ∨ i = 2 ∨ i = 3 ∨ i = 4 ∨ i = 5 ∨ i = 6 ∨ i = 7 ∨ i = 8 := by omega
  rcases this with rfl | rfl | rfl | rfl | rfl | rfl | rfl | rfl | rfl <;> decide
set_option maxRecDepth 100000 in
set_option maxHeartbeats 800000 in
theorem kindsNumber_any (v : Value) (ks : List Int) (w : World) (hv : Sg w v ks) (h8 : ks.length ≤ 8) (hk : ∀ i, i < ks.length → gt ks i = 1 ∨ gt ks i = 2) :
    Calls Try.prog 11 #[v] w fun e w' => e = .returned (.int .i64 (numK ks ks.length)) ∧ Below w.heap.size w w' := by
  obtain ⟨a, c, rfl, hR⟩ := hv
  have HR : Hid (∀ i, i < ks.length → ∃ g off, a = some ⟨g, off, none⟩ ∧ w.cell? ⟨g, off + i, none⟩ = some (.int .i64 (gt ks i))) := hR
  have HK : Hid (∀ i, i < ks.length → gt ks i = 1 ∨ gt ks i = 2) := hk
  clear hR hk
  go_enter Try.func11, Try.ntmps11
  go_wp2
  go_loopg [3, 4] ks.length (fun gk s3 s4 wx => ∃ (i : Nat) (m : Int), i ≤ ks.length ∧ gk = ks.length - i ∧ s4 = .int .i64 (i : Int) ∧ s3 = .int .i64 m ∧ m = numK ks i ∧ Below w.heap.size w wx)
  case atStart => exact ⟨0, 0, by omega, rfl, rfl, rfl, rfl, bl_refl _⟩
  case round =>
    obtain ⟨i, m, hi, rfl, rfl, rfl, hm, hB⟩ := hrel
    have HB : Hid (Below w.heap.size w wr ∧ m = numK ks i) := ⟨hB, hm⟩
    have hbd := numK_bd HK.out i hi
    have hp := pow8 (i := i) (by omega)
    rw [← hm] at hbd
    clear hB hm
    have hbd2 : 0 ≤ m ∧ m ≤ 255 := by omega
    clear hbd hp
    by_cases h1 : i < ks.length
    · have i1 : (i : Int) < (ks.length : Int) := by omega
      have i0 : (0 : Int) ≤ (i : Int) := by omega
      obtain ⟨g, off, rfl, c0⟩ := HR.out i h1
      replace c0 := cl_kept HB.out.1 c0
      have zg : g < wr.heap.size := World.block_lt_of_cell? _ _ c0
      have hk2 := HK.out i h1
      obtain ⟨vi, hvi⟩ : ∃ v, v = gt ks i := ⟨_, rfl⟩
      rw [← hvi] at c0 hk2
      have HVI : Hid (vi = gt ks i) := hvi
      clear hvi
      have hk3 : 1 ≤ vi ∧ vi ≤ 2 := by omega
      clear hk2
      go_wp2
      go_roundg (ks.length - (i + 1))
      case measure => omega
      case rel =>
        refine ⟨i + 1, 2 * m + vi - 1, by omega, rfl, by go_num, by go_num, ?_, HB.out.1⟩
        unfold numK
        rw [← HVI.out, ← HB.out.2]
    · have i1 : ¬ (i : Int) < (ks.length : Int) := by omega
      obtain rfl : i = ks.length := by omega
      go_wp2
      go_ret
      exact ⟨ret_int HB.out.2, HB.out.1⟩
set_option maxRecDepth 100000 in
set_option maxHeartbeats 800000 in
theorem kindsOf_any (g cap : Nat) (G : List Int) (w : World) (hr : Rw w g G) (h2 : 2 ≤ G.length) (h8 : G.length ≤ 8) :
    Calls Try.prog 29 #[.slice (some ⟨g, 0, none⟩) G.length cap] w fun e w' => e = .returned (.int .i64 (kN G.length G G.length)) ∧ Below w.heap.size w w' := by
  have HR : Hid (Rw w g G) := hr
  clear hr
  have n0 : (G.length : Int) ≠ 0 := by omega
  go_enter Try.func29, Try.ntmps29
  go_wp2
  go_loopg [4, 5] G.length (fun gk s4 s5 wx => ∃ (i : Nat) (m : Int), i ≤ G.length ∧ gk = G.length - i ∧ s5 = .int .i64 (i : Int) ∧ s4 = .int .i64 m ∧ m = kN G.length G i ∧ Below w.heap.size w wx)
  case atStart => exact ⟨0, 0, by omega, rfl, rfl, rfl, rfl, bl_refl _⟩
  case round =>
    obtain ⟨i, m, hi, rfl, rfl, rfl, hm, hB⟩ := hrel
    have HB : Hid (Below w.heap.size w wr ∧ m = kN G.length G i) := ⟨hB, hm⟩
    have hbd := kN_bd G.length G i
    have hp := pow8 (i := i) (by omega)
    rw [← hm] at hbd
    clear hB hm
    have hbd2 : 0 ≤ m ∧ m ≤ 255 := by omega
    clear hbd hp
    by_cases h1 : i < G.length
    · have i1 : (i : Int) < (G.length : Int) := by omega
      have i0 : (0 : Int) ≤ (i : Int) := by omega
      have hs := sA_int (j := i) h2
      have sl := sA_lt (j := i) h2
      have c0 := cl_kept HB.out.1 (HR.out i h1)
      have c1 := cl_kept HB.out.1 (HR.out _ sl)
      have zg : g < wr.heap.size := World.block_lt_of_cell? _ _ c0
      obtain ⟨s, hs'⟩ : ∃ s, s = sA G.length i := ⟨_, rfl⟩
      obtain ⟨vi, hvi⟩ : ∃ v, v = gt G i := ⟨_, rfl⟩
      obtain ⟨vs, hvs⟩ : ∃ v, v = gt G (sA G.length i) := ⟨_, rfl⟩
      have HK : Hid (kN G.length G (i + 1) = 2 * m + (if decide (vi > vs) = decide (s % 2 = 0) then 1 else 0)) := by
        have : kN G.length G (i + 1) = 2 * m + (if decide (vi > vs) = decide (s % 2 = 0) then 1 else 0) := by
          rw [kN, hvi, hvs, hs', HB.out.2]
        exact this
      rw [← hvi] at c0
      rw [← hvs] at c1
      rw [← hs'] at hs sl c1
      have i2 : (s : Int) < (G.length : Int) := by omega
      have i3 : (0 : Int) ≤ (s : Int) := by omega
      clear hs' hvi hvs sl
      have t1 := two_int s
      have kc := Kin.cells wr
      have kn : Nonempty (Kin wr) := ⟨⟨wr, bl_refl _⟩⟩
      go_wp2
      refine wp_region_kin (by kernel_rfl) (by kernel_rfl) ?_
      repeat (go_big_quiet_step (fail))
      refine wpQuiet_nil ?_
      intro wq hw'
      obtain ⟨nq, hw''⟩ := hw'
      have hq : Below wr.heap.size wr wq := hw'' ▸ nq.h
      clear hw'' nq kc kn c0 c1
      have E1 : Hid (((s : Int) % 2 == 0) = decide (s % 2 = 0)) := by
        have e1 : ((s : Int) % 2 == 0) = decide (s % 2 = 0) := by
          rw [Bool.eq_iff_iff]
          simp
          omega
        exact e1
      by_cases q1 : (decide (vs < vi) == ((s : Int) % 2 == 0)) = true
      · have HK2 : Hid (kN G.length G (i + 1) = 2 * m + 1) := by
          have : kN G.length G (i + 1) = 2 * m + 1 := by rw [HK.out, if_pos (by simpa [E1.out] using q1)]
          exact this
        go_wp2
        go_roundg (G.length - (i + 1))
        case measure => omega
        case rel => exact ⟨i + 1, 2 * m + 1, by omega, rfl, by go_num, by go_num, HK2.out.symm, bl_via HB.out.1 hq⟩
      · have HK2 : Hid (kN G.length G (i + 1) = 2 * m) := by
          have : kN G.length G (i + 1) = 2 * m := by rw [HK.out, if_neg (by simpa [E1.out] using q1)]; omega
          exact this
        have q1b : (decide (vs < vi) == ((s : Int) % 2 == 0)) = false := by simpa using q1
        clear q1
        go_wp2
        go_roundg (G.length - (i + 1))
        case measure => omega
        case rel => exact ⟨i + 1, 2 * m, by omega, rfl, by go_num, by go_num, HK2.out.symm, bl_via HB.out.1 hq⟩
    · have i1 : ¬ (i : Int) < (G.length : Int) := by omega
      obtain rfl : i = G.length := by omega
      go_wp2
      go_ret
      exact ⟨ret_int HB.out.2, HB.out.1⟩
end Go.Proofs.Ytoedcefbmbfnhac
