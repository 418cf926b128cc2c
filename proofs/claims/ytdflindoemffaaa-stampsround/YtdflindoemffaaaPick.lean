/- A number picked below another. -/
import Derived.Test.YtdflindoemffaaaWitn
namespace Go.Proofs.Ytdflindoemffaaa
open Go.RowKit

def pkm (n m : Int) : Int := if n < 0 then (-(n + 1)) % m else n % m
theorem pkm_bd (n : Int) {m : Int} (h : 0 < m) : 0 ≤ pkm n m ∧ pkm n m < m := by
  unfold pkm
  split <;> exact ⟨Int.emod_nonneg _ (by omega), Int.emod_lt_of_pos _ h⟩
theorem pickedm (n m : Int) (h1 : -9223372036854775808 ≤ n) (h2 : n ≤ 9223372036854775807) (hm : 0 < m) (hm2 : m ≤ 20000000) (w : World) : Calls Try.prog 19 #[.int .i64 n, .int .i64 m] w fun e w' => e = .returned (.int .i64 (pkm n m)) ∧ Below w.heap.size w w' := by
  have hne : (m : Int) ≠ 0 := by omega
  have hbd := pkm_bd n hm
  by_cases q : n < 0
  · have e1 : -((n + 1).tmod m) = pkm n m := by
      rw [pkm, if_pos q, ← Int.neg_tmod, Int.tmod_eq_emod_of_nonneg (by omega)]
    have e2 : (-(n + 1)).tmod m = pkm n m := by rw [Int.neg_tmod]; exact e1
    go_enter Try.func19, Try.ntmps19
    go_wp2
    go_ret
    exact ⟨rfl, bl_refl _⟩
  · have e1 : n.tmod m = pkm n m := by rw [pkm, if_neg q, Int.tmod_eq_emod_of_nonneg (by omega)]
    have e2 : n % m = pkm n m := by rw [pkm, if_neg q]
    go_enter Try.func19, Try.ntmps19
    go_wp2
    go_ret
    exact ⟨rfl, bl_refl _⟩
end Go.Proofs.Ytdflindoemffaaa
