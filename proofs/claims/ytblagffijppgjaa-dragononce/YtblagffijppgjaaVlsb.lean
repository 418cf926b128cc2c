/- A list of numbers that came in, opened, with the bounds of its numbers. -/
import Derived.Test.YtblagffijppgjaaVlst
namespace Go.Proofs.Ytblagffijppgjaa
open Go.ChangeShapes Go.WideShapes Go.ChangeAt Go.RowKit

theorem gt_mem {l : List Int} {i : Nat} (h : i < l.length) : gt l i ∈ l := by rw [gt_lt h]; exact List.getElem_mem h
/-- A list that came in, opened. -/
theorem list_ofB {H : Type} {enc : TypeId × Value → H} {W : World} {base : Nat} {v : Value} {d : DataW H} {p : List MemPlace} (hv : Value.okWide Try.prog W .any base 22 v)
    (h : DataW.Trod enc Try.prog W 0 (fun _ => true) true 22 v d p) :
    ∃ (a : Option Addr) (c : Nat) (l : List Int), v = .slice a l.length c ∧ Sg W (.slice a l.length c) l ∧ ∀ i, i < l.length → -9223372036854775808 ≤ gt l i ∧ gt l i ≤ 9223372036854775807 := by
  obtain ⟨a0, n0, c0, rfl⟩ := okWide_slice Try.underlying22 hv
  obtain ⟨fuel, hf⟩ := h
  rcases open_ints Try.underlying22 Try.underlying3 c3 hf with ⟨r2, _⟩ | ⟨x, n, cap, zs, r2, _, hl, _, hz, hy, hcell, hwf⟩
  · simp [Value.cells] at r2
    obtain ⟨rfl, rfl, rfl⟩ := r2
    exact ⟨none, 0, [], rfl, ⟨none, 0, rfl, fun i hi => by simp at hi⟩, fun i hi => by simp at hi⟩
  · simp [Value.cells] at r2
    obtain ⟨rfl, rfl, rfl⟩ := r2
    have hz' : zs.length = c0 := by simpa using hz
    have hlz : (zs.take n0).length = n0 := by rw [List.length_take]; omega
    refine ⟨some x, c0, zs.take n0, by rw [hlz], ⟨some x, c0, rfl, fun i hi => ?_⟩, ?_⟩
    · have hi2 := hi
      rw [hlz] at hi2
      obtain ⟨b, off, rfl, hc'⟩ := ints_at hcell (by omega)
      refine ⟨b, off, rfl, ?_⟩
      rw [hc' i (by omega), gt_lt hi, List.getElem_take, List.getD_eq_getElem?_getD, List.getElem?_eq_getElem (by omega)]
      rfl
    · intro i hi
      have := bounds_i64 (hwf _ (List.mem_of_mem_take (gt_mem hi)))
      exact this
end Go.Proofs.Ytblagffijppgjaa
