/- The law VertexCrimps. -/
import Derived.Test.YtioajagblphbnaaCrmk
import Derived.Test.YtioajagblphbnaaCrmp
import Derived.Test.YtioajagblphbnaaCrm8
namespace Go.Proofs.Ytioajagblphbnaa
open Go.RowKit

theorem picked4 (n : Int) (h1 : -9223372036854775808 ≤ n) (h2 : n ≤ 9223372036854775807) (w : World) : Calls Try.prog 8 #[.int .i64 n, .int .i64 4] w fun e w' => ∃ q : Nat, q < 4 ∧ e = .returned (.int .i64 (q : Int)) ∧ w' = w := by
  by_cases q : n < 0
  · have HM : Hid (∃ k : Nat, k < 4 ∧ -((n + 1).tmod 4) = (k : Int)) := ⟨((-(n + 1)) % 4).toNat, by omega, by rw [← Int.neg_tmod, Int.tmod_eq_emod_of_nonneg (by omega)]; omega⟩
    go_enter Try.func8, Try.ntmps8
    go_wp2
    go_ret
    obtain ⟨k, hk, e⟩ := HM.out
    exact ⟨k, hk, ret_int e, rfl⟩
  · have HM : Hid (∃ k : Nat, k < 4 ∧ n % 4 = (k : Int)) := ⟨(n % 4).toNat, by omega, by omega⟩
    go_enter Try.func8, Try.ntmps8
    go_wp2
    go_ret
    obtain ⟨k, hk, e⟩ := HM.out
    exact ⟨k, hk, ret_int e, rfl⟩
theorem KL_mem (X : List Int) : ∀ N j, j < (KL X N).length → ∃ m, m < N ∧ goB X m = true ∧ (KL X N).getD j [] = lst X.length m
  | 0, j, h => by simp [KL] at h
  | N + 1, j, h => by
    by_cases hg : goB X N = true
    · have e : KL X (N + 1) = KL X N ++ [lst X.length N] := by rw [KL, if_pos hg]
      rw [e] at h ⊢
      by_cases hj : j < (KL X N).length
      · obtain ⟨m, h1, h2, h3⟩ := KL_mem X N j hj
        refine ⟨m, by omega, h2, ?_⟩
        rw [List.getD_eq_getElem?_getD, List.getElem?_append_left hj, ← List.getD_eq_getElem?_getD]
        exact h3
      · simp at h
        have : j = (KL X N).length := by omega
        subst this
        refine ⟨N, by omega, hg, ?_⟩
        rw [List.getD_eq_getElem?_getD, List.getElem?_append_right (Nat.le_refl _)]
        simp
    · have e : KL X (N + 1) = KL X N := by
        rw [KL, if_neg hg]
        first | rfl | simp
      rw [e] at h ⊢
      obtain ⟨m, h1, h2, h3⟩ := KL_mem X N j h
      exact ⟨m, by omega, h2, h3⟩
/-- What is wanted, reckoned step by step. -/
def wnt (q : Nat) : Nat → Int
  | 0 => 2
  | i + 1 => (wnt q i * (2 * (1 + (q : Int)) - (i : Int))).tdiv ((i : Int) + 1)
theorem wnt_bd : ∀ q, q < 4 → ∀ i, i < q → 0 ≤ wnt q i ∧ wnt q i ≤ 200 := by decide
theorem cnt7 {q : Nat} (hq : q < 4) : cnt (dsk (List.replicate (2 * (1 + q)) 7)) (2 ^ (2 * (1 + q))) = (wnt q q).toNat ∧ 0 ≤ wnt q q ∧ wnt q q ≤ 200 := by
  have : q = 0 ∨ q = 1 ∨ q = 2 ∨ q = 3 := by omega
  rcases this with rfl | rfl | rfl | rfl
  · exact ⟨cnt2, by decide, by decide⟩
  · exact ⟨cnt4, by decide, by decide⟩
  · exact ⟨cnt6, by decide, by decide⟩
  · exact ⟨cnt8, by decide, by decide⟩
theorem wrong7 {q : Nat} (hq : q < 4) : wrongV (List.replicate (2 * (1 + q)) 7) = 0 := by
  have : q = 0 ∨ q = 1 ∨ q = 2 ∨ q = 3 := by omega
  rcases this with rfl | rfl | rfl | rfl <;> decide
theorem count7 {q : Nat} (hq : q < 4) (v : Value) (w : World) (hv : Sl w v (List.replicate (2 * (1 + q)) 7)) : Calls Try.prog 5 #[v] w fun e w' => e = .returned (.tuple #[.int .i64 (wnt q q), .int .i64 0]) ∧ Below w.heap.size w w' := by
  have h := count_ok v _ w hv.sg (by simp; omega) (wrong7 hq)
  rw [List.length_replicate, (cnt7 hq).1, Int.toNat_of_nonneg (cnt7 hq).2.1] at h
  exact h
end Go.Proofs.Ytioajagblphbnaa
