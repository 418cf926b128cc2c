/- Straights in form: the greatest common divisor. -/
import Derived.Test.YtohnppjbmpaomaaFarr
namespace Go.Proofs.Ytohnppjbmpaomaa
open Go.RowKit

def g3 (a b c : Int) : Nat := Nat.gcd (Nat.gcd a.natAbs b.natAbs) c.natAbs
/-- What a straight's numbers are divided by: with the sign. -/
def dv (a b c : Int) : Int := if a < 0 ∨ (a = 0 ∧ b < 0) then -(g3 a b c : Int) else (g3 a b c : Int)
def frm (a b c : Int) : Value := st (a.tdiv (dv a b c)) (b.tdiv (dv a b c)) (c.tdiv (dv a b c))
theorem g3_pos {a b c : Int} (h : ¬ (a = 0 ∧ b = 0)) : 0 < g3 a b c := by
  unfold g3
  rcases Nat.eq_zero_or_pos (Nat.gcd (Nat.gcd a.natAbs b.natAbs) c.natAbs) with e | e
  · exfalso
    rw [Nat.gcd_eq_zero_iff, Nat.gcd_eq_zero_iff] at e
    exact h ⟨by omega, by omega⟩
  · exact e
theorem gcd_step (d n : Int) : Nat.gcd n.natAbs (d.tmod n).natAbs = Nat.gcd d.natAbs n.natAbs := by
  rw [Int.natAbs_tmod, Nat.gcd_comm, ← Nat.gcd_rec, Nat.gcd_comm]
theorem tmod_lt (d n : Int) (h : n ≠ 0) : (d.tmod n).natAbs < n.natAbs := by
  rw [Int.natAbs_tmod]
  exact Nat.mod_lt _ (by omega)
/-- The divisor of all numbers of a list. -/
def gL (l : List Int) : Nat := l.foldl (fun d n => Nat.gcd d n.natAbs) 0
theorem gL_three (a b c : Int) : gL [a, b, c] = g3 a b c := by simp [gL, g3]
theorem gL_take {l : List Int} {i : Nat} (h : i < l.length) : gL (l.take (i + 1)) = Nat.gcd (gL (l.take i)) (gt l i).natAbs := by
  rw [List.take_succ_eq_append_getElem h, gL, List.foldl_append]
  simp [gL, gt_lt h]
/-- The numbers are small: nothing wraps round. -/
def sm (x : Int) : Prop := -1152921504606846976 ≤ x ∧ x ≤ 1152921504606846976
theorem sm_tmod {d n : Int} (_hd : sm d) (h : n ≠ 0) (hn : sm n) : sm (d.tmod n) := by
  have := tmod_lt d n h
  unfold sm at *
  omega
end Go.Proofs.Ytohnppjbmpaomaa
