/- The reference's order: heights given one after the other, in every way. -/
import Derived.Test.YtioajagblphbnaaGord
import Derived.Test.YtioajagblphbnaaOrdm
namespace Go.Proofs.Ytioajagblphbnaa
open Go.RowKit

theorem kN_nat (n : Nat) (G : List Int) : ∃ b : Nat, kN n G n = (b : Int) ∧ b < 2 ^ n := by
  have h := kN_bd n G n
  refine ⟨(kN n G n).toNat, by omega, ?_⟩
  have : ((2 ^ n : Nat) : Int) = (2 : Int) ^ n := by simp
  omega
/-- What comes of it. -/
def Came (wB w' : World) (gh go n m k : Nat) (X H : List Int) (O : Nat → Bool) : Prop := ∃ H' O', OS wB w' gh go n m H' O' ∧ (∀ i, i < k → gt H' i = gt H i) ∧ ∀ b : Nat, b < m → (O' b = true ↔ O b = true ∨ Ext X n k H (b : Int))
end Go.Proofs.Ytioajagblphbnaa
