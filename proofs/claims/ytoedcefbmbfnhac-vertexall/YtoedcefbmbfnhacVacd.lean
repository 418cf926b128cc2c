/-
  PROVED: the law VertexAll: whatever numbers the list of angles holds and however long it is, what All and Count answer is what the law reckons itself by all orders of the sectors: just the lists of kinds that have a good order, in order, and their number (or the size, range or tear that is wrong); the law returns true, and the list reads as before.
  Conditions: none.
-/
import Derived.Test.YtoedcefbmbfnhacRows
import Derived.Test.YtoedcefbmbfnhacLawa
import Derived.ProofKit
import Derived.OpenShut
import Derived.SizedLaws
import Derived.HandedShaped
namespace Go.Proofs.Ytoedcefbmbfnhac
open Go.ChangeShapes Go.WideShapes Go.ChangeAt Go.RowKit

theorem own : ownKnob Try.prog.godebug = none := by kernel_rfl
theorem laidOut : laidOutB Try.prog = true := by kernel_rfl
theorem by3 : Try.prog.bytesOf 3 = 8 := by kernel_rfl
theorem c3 : Try.prog.cellsOf 3 = 1 := by kernel_rfl
/-- A list that came in, opened. -/
theorem list_of {H : Type} {enc : TypeId × Value → H} {W : World} {base : Nat} {v : Value} {d : DataW H} {p : List MemPlace} (hv : Value.okWide Try.prog W .any base 22 v)
    (h : DataW.Trod enc Try.prog W 0 (fun _ => true) true 22 v d p) (hk : ∀ n ∈ d.weights Try.prog 22, n ≤ reachBytes) :
    ∃ (a : Option Addr) (c : Nat) (l : List Int), v = .slice a l.length c ∧ Sg W (.slice a l.length c) l ∧ l.length ≤ 17592186044416 := by
  obtain ⟨a0, n0, c0, rfl⟩ := okWide_slice Try.underlying22 hv
  obtain ⟨fuel, hf⟩ := h
  rcases open_ints Try.underlying22 Try.underlying3 c3 hf with ⟨r2, _⟩ | ⟨x, n, cap, zs, r2, _, hl, _, hz, hy, hcell, _⟩
  · simp [Value.cells] at r2
    obtain ⟨rfl, rfl, rfl⟩ := r2
    exact ⟨none, 0, [], rfl, ⟨none, 0, rfl, fun i hi => by simp at hi⟩, by simp⟩
  · simp [Value.cells] at r2
    obtain ⟨rfl, rfl, rfl⟩ := r2
    have hz' : zs.length = c0 := by simpa using hz
    have hlz : (zs.take n0).length = n0 := by rw [List.length_take]; omega
    refine ⟨some x, c0, zs.take n0, by rw [hlz], ⟨some x, c0, rfl, fun i hi => ?_⟩, ?_⟩
    · have hi2 := hi
      rw [hlz] at hi2
      obtain ⟨b, off, rfl, hc'⟩ := ints_at hcell (by omega)
      refine ⟨b, off, rfl, ?_⟩
      rw [hc' i (by omega), gt_lt hi, List.getElem_take, List.getD_eq_getElem?_getD, List.getElem?_eq_getElem (by omega)]
      rfl
    · simp only [Prod.mk.injEq] at hy
      have := hk (((lits (H := H) .i64 (zs.take n0)).length + (lits (H := H) .i64 (zs.drop n0)).length) * Try.prog.bytesOf 3) (by rw [hy.1]; simp [DataW.weights, Try.underlying22])
      rw [by3, show (lits (H := H) .i64 (zs.take n0)).length = (zs.take n0).length by simp [lits]] at this
      unfold reachBytes at this
      omega
set_option maxRecDepth 100000 in
theorem lifted (os : Os) (started : os.Started) (H : Type) (enc : TypeId × Value → H) :
    ReturnsInHanded {} Try.checked os 3 .any (Rows.vertexAllSpec.pre6 enc Try.prog Try.f3 Rows.vertexAllRow.domain false) (Rows.vertexAllSpec.post enc Try.prog Try.f3 false true false false) := by
  refine returnsInHanded_of_change_shaped (C := Try.checked) own started (by kernel_rfl) Try.func3
    (ChangeSpec.witness6 (enc := enc) (C := Try.checked) false ⟨#[], #[.slice none 0 0], []⟩ 8 (by kernel_rfl) (by kernel_rfl) (by kernel_rfl) (by kernel_rfl)) ?_
  intro W base args ds gs before hval0 hW hcnd hk _ _
  have hval : ∀ (j : Nat) t v, Try.f3.params[j]? = some t → args[j]? = some v → Value.okWide Try.prog W .any base t v := hval0
  have hW' := hW
  obtain ⟨p, q, hA0, hV, rfl, hfz, hnd⟩ := hW
  have hA : DataW.TrodAll enc Try.prog W 0 (fun _ => true) true Try.f3.params.toList args.toList ds p := hA0
  rw [Try.params3] at hA hval
  obtain ⟨v0, vs0, d0, ds0, p0, q0, hargs, rfl, rfl, h0, r0⟩ := trodAll_cons hA
  obtain ⟨rfl, rfl, rfl⟩ := trodAll_nil r0
  obtain rfl : args = #[v0] := by cases args; simp_all
  obtain ⟨rfl, rfl⟩ := trodVars_none hV
  have lt0 : ∀ x ∈ p0, x.block < W.heap.size := by obtain ⟨m, hm⟩ := h0; exact DataW.trod_lt m _ _ _ hm
  obtain ⟨a, c, l, rfl, hs0, hl0⟩ := list_of (hval 0 22 v0 rfl rfl) h0 (fun n hn => by simpa using List.all_eq_true.1 hk n (DataW.weights_mem_each (j := 0) (t := 22) (by rw [Try.params3]; rfl) rfl n hn))
  clear hA0 hval0
  refine (vall_any a c l W hs0 hl0).mono fun e W' ⟨he, bel⟩ => ?_
  subst he
  exact ⟨_, rfl, _, _, _, [], _, [], hW', trodAll_mk1 (shut_bool Try.underlying4 _), (trodAll_cons_mk (Below.trod laidOut (by kernel_rfl) (of_decide_eq_true (by kernel_rfl)) h0 bel lt0) trodAll_mk0), rfl, bel.frame _, fun h => by cases h⟩
theorem vertexAll_holds : Rows.VertexAllSaid :=
  OpenClaim.holds_of_wide 3 Try.f3 rfl rfl rfl rfl rfl rfl rfl ⟨rfl, rfl, rfl, rfl, rfl⟩ rfl rfl rfl rfl rfl (by kernel_rfl) Try.func3 (by kernel_rfl)
    (of_decide_eq_true (by kernel_rfl)) (by unfold Func.isWrapper; first | (rw [if_pos (by decide +kernel)]; kernel_rfl) | (rw [if_neg (by decide +kernel)]; exact ⟨rfl, rfl⟩))
    (fun os started H enc _ => lifted os started H enc)
#print axioms vertexAll_holds
end Go.Proofs.Ytoedcefbmbfnhac
