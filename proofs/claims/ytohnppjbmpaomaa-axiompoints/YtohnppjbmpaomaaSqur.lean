/- squares; the reference's common. -/
import Derived.Test.YtohnppjbmpaomaaForm
namespace Go.Proofs.Ytohnppjbmpaomaa
open Go.RowKit

def sqL (l : List Int) : Int := (l.map fun n => n * n).sum
theorem sqL_take {l : List Int} {i : Nat} (h : i < l.length) : sqL (l.take (i + 1)) = sqL (l.take i) + gt l i * gt l i := by
  rw [List.take_succ_eq_append_getElem h, sqL, List.map_append, List.sum_append]
  simp [sqL, gt_lt h]
theorem w64 (n : Int) (h : -9223372036854775808 ≤ n ∧ n ≤ 9223372036854775807) : wrap64 n = n := by unfold wrap64; omega
theorem sq_nn (n : Int) : 0 ≤ n * n := by
  rw [← Int.natAbs_mul_self]
  exact Int.natCast_nonneg _
/-- How great a number is at the most. -/
def bd (m x : Int) : Prop := -m ≤ x ∧ x ≤ m
theorem bd_mul {m n x y : Int} (h : bd m x) (k : bd n y) : bd (m * n) (x * y) := by
  unfold bd at *
  have hm : 0 ≤ m := by omega
  have h1 := Int.mul_nonneg (show (0 : Int) ≤ m - x by omega) (show (0 : Int) ≤ n + y by omega)
  have h2 := Int.mul_nonneg (show (0 : Int) ≤ m + x by omega) (show (0 : Int) ≤ n - y by omega)
  have h3 := Int.mul_nonneg (show (0 : Int) ≤ m - x by omega) (show (0 : Int) ≤ n - y by omega)
  have h4 := Int.mul_nonneg (show (0 : Int) ≤ m + x by omega) (show (0 : Int) ≤ n + y by omega)
  rw [Int.sub_mul, Int.mul_add, Int.mul_add] at h1
  rw [Int.add_mul, Int.mul_sub, Int.mul_sub] at h2
  rw [Int.sub_mul, Int.mul_sub, Int.mul_sub] at h3
  rw [Int.add_mul, Int.mul_add, Int.mul_add] at h4
  omega
theorem bd_add {m n x y : Int} (h : bd m x) (k : bd n y) : bd (m + n) (x + y) := by unfold bd at *; omega
theorem bd_sub {m n x y : Int} (h : bd m x) (k : bd n y) : bd (m + n) (x - y) := by unfold bd at *; omega
theorem bd_neg {m x : Int} (h : bd m x) : bd m (-x) := by unfold bd at *; omega
theorem bd_up {m n x : Int} (h : bd m x) (k : m ≤ n) : bd n x := by unfold bd at *; omega
theorem bd_of_far {n : Int} (h : far n = false) : bd 1000 n := by
  have := far_no.1 h
  unfold bd
  omega
/-- A number whose square is small. -/
theorem sq_le {n : Int} (h1 : -1000000000 ≤ n) (h2 : n ≤ 1000000000) : 0 ≤ n * n ∧ n * n ≤ 1000000000000000000 := by
  refine ⟨sq_nn n, ?_⟩
  have h := Int.mul_nonneg (show (0 : Int) ≤ 1000000000 - n by omega) (show (0 : Int) ≤ 1000000000 + n by omega)
  have e : (1000000000 - n) * (1000000000 + n) = 1000000000000000000 - n * n := by
    rw [Int.sub_mul, Int.mul_add, Int.mul_add, Int.mul_comm n 1000000000]
    omega
  omega
set_option maxRecDepth 100000 in
set_option maxHeartbeats 800000 in
theorem squares25 (v : Value) (l : List Int) (w : World) (hv : Sg w v l) (hl : l.length ≤ 100) (hs : ∀ i, i ≤ l.length → -2000000000000000000 ≤ sqL (l.take i) ∧ sqL (l.take i) ≤ 2000000000000000000)
    (hm : ∀ i, i < l.length → -1000000000 ≤ gt l i ∧ gt l i ≤ 1000000000) :
    Calls Try.prog 25 #[v] w fun e w' => e = .returned (.int .i64 (sqL l)) ∧ Below w.heap.size w w' := by
  obtain ⟨a, c, rfl, hR⟩ := hv
  have HR : Hid (∀ i, i < l.length → ∃ g off, a = some ⟨g, off, none⟩ ∧ w.cell? ⟨g, off + i, none⟩ = some (.int .i64 (gt l i))) := hR
  have HS : Hid ((∀ i, i ≤ l.length → -2000000000000000000 ≤ sqL (l.take i) ∧ sqL (l.take i) ≤ 2000000000000000000) ∧ ∀ i, i < l.length → -1000000000 ≤ gt l i ∧ gt l i ≤ 1000000000) := ⟨hs, hm⟩
  clear hR hs hm
  go_enter Try.func25, Try.ntmps25
  go_wp2
  go_loopg [3, 8] l.length (fun gk s3 s8 wx => ∃ (i : Nat), i ≤ l.length ∧ gk = l.length - i ∧ s3 = .int .i64 (sqL (l.take i)) ∧ s8 = .int .i64 (i : Int) ∧ Below w.heap.size w wx)
  case atStart => exact ⟨0, by omega, rfl, rfl, rfl, bl_refl _⟩
  case round =>
    obtain ⟨i, hi, rfl, rfl, rfl, hB⟩ := hrel
    have HB : Hid (Below w.heap.size w wr) := hB
    clear hB
    by_cases h1 : i < l.length
    · have i1 : (i : Int) < (l.length : Int) := by omega
      have i0 : (0 : Int) ≤ (i : Int) := by omega
      obtain ⟨g, off, rfl, c0⟩ := HR.out i h1
      replace c0 := cl_kept HB.out c0
      have zg : g < wr.heap.size := World.block_lt_of_cell? _ _ c0
      have ht := sqL_take h1
      have b1 := HS.out.1 i (by omega)
      have b2 := HS.out.1 (i + 1) (by omega)
      have b3 := HS.out.2 i h1
      have b4 := sq_le b3.1 b3.2
      obtain ⟨vi, hvi⟩ : ∃ v, v = gt l i := ⟨_, rfl⟩
      rw [← hvi] at c0 ht b3 b4
      obtain ⟨sv, hsv⟩ : ∃ v, v = sqL (l.take i) := ⟨_, rfl⟩
      rw [← hsv] at b1 ht ⊢
      obtain ⟨tv, htv⟩ : ∃ v, v = sqL (l.take (i + 1)) := ⟨_, rfl⟩
      rw [← htv] at b2 ht
      have HT : Hid (tv = sqL (l.take (i + 1))) := htv
      obtain ⟨mv, hmv⟩ : ∃ v, v = vi * vi := ⟨_, rfl⟩
      have e0 := w64 (vi * vi) (by omega)
      rw [← hmv] at b4 ht
      have e1 : wrap64 (vi * vi) = mv := e0.trans hmv.symm
      have e2 : wrap64 (sv + mv) = tv := (w64 _ (by omega)).trans ht.symm
      have E2 : Hid (wrap64 (sv + mv) = tv) := e2
      clear hvi hsv htv b1 b2 b3 b4 ht hmv e0 e2
      go_wp2
      go_roundg (l.length - (i + 1))
      case measure => omega
      case rel => exact ⟨i + 1, by omega, rfl, by rw [← HT.out, E2.out], by go_num, HB.out⟩
    · have i1 : ¬ (i : Int) < (l.length : Int) := by omega
      obtain rfl : i = l.length := by omega
      go_wp2
      go_ret
      exact ⟨rfl, HB.out⟩
set_option maxRecDepth 100000 in
set_option maxHeartbeats 800000 in
theorem commonR_pos (x y : Int) (w : World) (hx : sm x) (hy : sm y) :
    Calls Try.prog 43 #[.int .i64 x, .int .i64 y] w fun e w' => e = .returned (.int .i64 ((Nat.gcd x.natAbs y.natAbs : Nat) : Int)) ∧ Below w.heap.size w w' := by
  obtain ⟨x1, x2⟩ := hx
  obtain ⟨y1, y2⟩ := hy
  obtain ⟨G, hG⟩ : ∃ G, G = Nat.gcd x.natAbs y.natAbs := ⟨_, rfl⟩
  rw [← hG]
  have HG : Hid (G = Nat.gcd x.natAbs y.natAbs) := hG
  clear hG
  by_cases cx : x < 0 <;> by_cases cy : y < 0
  all_goals
    go_enter Try.func43, Try.ntmps43
    go_wp2
    go_loopg [0, 1] x.natAbs (fun gk s0 s1 wx => ∃ (a b : Nat), a = gk ∧ a ≤ 1152921504606846976 ∧ b ≤ 1152921504606846976 ∧ s0 = .int .i64 (a : Int) ∧ s1 = .int .i64 (b : Int) ∧ Nat.gcd a b = G ∧ Below w.heap.size w wx)
    case atStart => exact ⟨x.natAbs, y.natAbs, rfl, by omega, by omega, by go_num, by go_num, HG.out.symm, bl_refl _⟩
    case round =>
      obtain ⟨a, b, rfl, ha, hb, rfl, rfl, hg, hB⟩ := hrel
      have HB : Hid (Nat.gcd a b = G ∧ Below w.heap.size w wr) := ⟨hg, hB⟩
      clear hg hB
      by_cases h0 : a = 0
      · subst h0
        have HE : Hid (b = G) := by
          have := HB.out.1
          rw [Nat.gcd_zero_left] at this
          exact this
        go_wp2
        go_ret
        exact ⟨ret_int (by rw [HE.out]), HB.out.2⟩
      · have q1 : (0 : Int) < (a : Int) := by omega
        have q2 : ¬ (a : Int) = 0 := by omega
        have e1 := tmod_nat b a
        have HM : Hid (b % a < a ∧ Nat.gcd (b % a) a = G) := ⟨Nat.mod_lt _ (by omega), by rw [← HB.out.1, Nat.gcd_rec a b]⟩
        go_wp2
        go_roundg (b % a)
        case measure => exact HM.out.1
        case rel => exact ⟨b % a, a, rfl, by have := HM.out.1; omega, ha, by first | go_num | (rw [e1]), rfl, HM.out.2, HB.out.2⟩
end Go.Proofs.Ytohnppjbmpaomaa
