/- Maps whose keys are edges: what a look-up, an entry, a store do. -/
import Derived.Test.YtehmoacggikfmaaDoorQlat
import Derived.Test.YtehmoacggikfmaaDoorQlac
import Derived.WideKeyEntry
import Derived.WideKeyRuns
namespace Go.Proofs.YtehmoacggikfmaaDoor
open Go.RowKit Go.ChangeMaps

/-- An edge as a key. -/
def ek (e : Int × Int × Int × Int) : Value := .agg #[.int .i64 e.1, .int .i64 e.2.1, .int .i64 e.2.2.1, .int .i64 e.2.2.2]
/-- An entry: its key, its value, its stamp. -/
def toE (x : (Int × Int × Int × Int) × Value × Nat) : MapEntry := ⟨ek x.1, x.2.1, x.2.2⟩

theorem equal27 (a b : Int × Int × Int × Int) (w : World) : (Op.equal 46 (ek a) (ek b)).run Tryd.prog w = .ok (decide (a = b)) w := by
  obtain ⟨a0, a1, a2, a3⟩ := a
  obtain ⟨b0, b1, b2, b3⟩ := b
  have h := eql27 a0 a1 a2 a3 b0 b1 b2 b3 w
  have e : sameB a0 a1 a2 a3 b0 b1 b2 b3 = decide ((a0, a1, a2, a3) = (b0, b1, b2, b3)) := by simp [sameB]
  rw [e] at h
  unfold ek
  simp only [binOp, Sem.run_bind, Sem.run_pure] at h
  cases hr : (Op.equal 46 (.agg #[.int .i64 a0, .int .i64 a1, .int .i64 a2, .int .i64 a3]) (.agg #[.int .i64 b0, .int .i64 b1, .int .i64 b2, .int .i64 b3])).run Tryd.prog w with
  | ok r w1 =>
    rw [hr] at h
    simpa [Result.andThen] using h
  | halt x w1 =>
    rw [hr] at h
    simp [Result.andThen] at h
theorem checkInt (em : Bool) (n : Nat) (a : Int) (w : World) : (Instr.checkKey em (n + 1) 3 (.int .i64 a)).run Tryd.prog w = .ok () w := by
  simp [Instr.checkKey, run_underlying Tryd.underlying3, Result.andThen]
theorem check25 (em : Bool) (n : Nat) (a b : Int) (w : World) : (Instr.checkKey em (n + 2) 44 (.agg #[.int .i64 a, .int .i64 b])).run Tryd.prog w = .ok () w := by
  rw [show n + 2 = (n + 1) + 1 by omega]
  unfold Instr.checkKey
  simp [run_underlying Tryd.underlying44, go_sem, checkInt]
theorem check27a (em : Bool) (n : Nat) (a b c d : Int) (w : World) : (Instr.checkKey em (n + 3) 46 (.agg #[.int .i64 a, .int .i64 b, .int .i64 c, .int .i64 d])).run Tryd.prog w = .ok () w := by
  rw [show n + 3 = (n + 2) + 1 by omega]
  unfold Instr.checkKey
  simp [run_underlying Tryd.underlying46, go_sem, check25]
theorem check27 (em : Bool) (a : Int × Int × Int × Int) (w : World) : (Instr.checkKey em 10000 46 (ek a)).run Tryd.prog w = .ok () w := check27a em 9997 _ _ _ _ w
theorem stays27 (a : Int × Int × Int × Int) (w : World) : (Instr.keyThatStays (ek a) (ek a)).run Tryd.prog w = .ok (ek a) w := by
  have : Instr.sameBits 10000 (ek a) (ek a) = true := by
    unfold ek
    show Instr.sameBits (9999 + 1) _ _ = true
    simp [Instr.sameBits]
  simp [Instr.keyThatStays, this]
theorem find27 (k : Int × Int × Int × Int) (w : World) : ∀ (ls : List ((Int × Int × Int × Int) × Value × Nat)) (i : Nat),
    ((Instr.findAsking 46 (ek k) (ls.map toE) i).run Tryd.prog w = .ok none w ∧ ∀ x ∈ ls, x.1 ≠ k) ∨
    ∃ j x, (Instr.findAsking 46 (ek k) (ls.map toE) i).run Tryd.prog w = .ok (some (i + j, x.2.1)) w ∧ ls[j]? = some x ∧ x.1 = k
  | [], i => Or.inl ⟨by simp [Instr.findAsking], by simp⟩
  | x :: r, i => by
    by_cases h : k = x.1
    · refine Or.inr ⟨0, x, ?_, rfl, h.symm⟩
      have hq := equal27 k x.1 w
      rw [decide_eq_true h] at hq
      rw [List.map_cons]
      simp only [Instr.findAsking, toE, Sem.run_bind, hq, Result.andThen]
      rfl
    · have hq := equal27 k x.1 w
      rw [decide_eq_false h] at hq
      rcases find27 k w r (i + 1) with ⟨h1, h2⟩ | ⟨j, y, h1, h2, h3⟩
      · refine Or.inl ⟨?_, ?_⟩
        · rw [List.map_cons]
          simp only [Instr.findAsking, toE, Sem.run_bind, hq, Result.andThen]
          exact h1
        · intro y hy
          rcases List.mem_cons.1 hy with rfl | hy
          · exact fun e => h e.symm
          · exact h2 y hy
      · refine Or.inr ⟨j + 1, y, ?_, by simpa using h2, h3⟩
        rw [List.map_cons]
        simp only [Instr.findAsking, toE, Sem.run_bind, hq, Result.andThen]
        rw [show i + (j + 1) = i + 1 + j by omega]
        exact h1
end Go.Proofs.YtehmoacggikfmaaDoor
