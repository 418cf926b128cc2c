/- A list of numbers that came in, opened. -/
import Derived.Test.YtblagffijppgjaaRows
import Derived.Test.YtblagffijppgjaaBase
import Derived.ProofKit
import Derived.OpenShut
import Derived.SizedLaws
import Derived.HandedShaped
namespace Go.Proofs.Ytblagffijppgjaa
open Go.ChangeShapes Go.WideShapes Go.ChangeAt Go.RowKit

theorem own : ownKnob Try.prog.godebug = none := by kernel_rfl
theorem laidOut : laidOutB Try.prog = true := by kernel_rfl
theorem by3 : Try.prog.bytesOf 3 = 8 := by kernel_rfl
theorem c3 : Try.prog.cellsOf 3 = 1 := by kernel_rfl
/-- A list that came in, opened. -/
theorem list_of {H : Type} {enc : TypeId × Value → H} {W : World} {base : Nat} {v : Value} {d : DataW H} {p : List MemPlace} (hv : Value.okWide Try.prog W .any base 22 v)
    (h : DataW.Trod enc Try.prog W 0 (fun _ => true) true 22 v d p) (hk : ∀ n ∈ d.weights Try.prog 22, n ≤ reachBytes) :
    ∃ (a : Option Addr) (c : Nat) (l : List Int), v = .slice a l.length c ∧ Sg W (.slice a l.length c) l ∧ l.length ≤ 17592186044416 := by
  obtain ⟨a0, n0, c0, rfl⟩ := okWide_slice Try.underlying22 hv
  obtain ⟨fuel, hf⟩ := h
  rcases open_ints Try.underlying22 Try.underlying3 c3 hf with ⟨r2, _⟩ | ⟨x, n, cap, zs, r2, _, hl, _, hz, hy, hcell, _⟩
  · simp [Value.cells] at r2
    obtain ⟨rfl, rfl, rfl⟩ := r2
    exact ⟨none, 0, [], rfl, ⟨none, 0, rfl, fun i hi => by simp at hi⟩, by simp⟩
  · simp [Value.cells] at r2
    obtain ⟨rfl, rfl, rfl⟩ := r2
    have hz' : zs.length = c0 := by simpa using hz
    have hlz : (zs.take n0).length = n0 := by rw [List.length_take]; omega
    refine ⟨some x, c0, zs.take n0, by rw [hlz], ⟨some x, c0, rfl, fun i hi => ?_⟩, ?_⟩
    · have hi2 := hi
      rw [hlz] at hi2
      obtain ⟨b, off, rfl, hc'⟩ := ints_at hcell (by omega)
      refine ⟨b, off, rfl, ?_⟩
      rw [hc' i (by omega), gt_lt hi, List.getElem_take, List.getD_eq_getElem?_getD, List.getElem?_eq_getElem (by omega)]
      rfl
    · simp only [Prod.mk.injEq] at hy
      have := hk (((lits (H := H) .i64 (zs.take n0)).length + (lits (H := H) .i64 (zs.drop n0)).length) * Try.prog.bytesOf 3) (by rw [hy.1]; simp [DataW.weights, Try.underlying22])
      rw [by3, show (lits (H := H) .i64 (zs.take n0)).length = (zs.take n0).length by simp [lits]] at this
      unfold reachBytes at this
      omega
end Go.Proofs.Ytblagffijppgjaa
