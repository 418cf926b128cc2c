/-
  PROVED: the law StampsAlways: whatever numbers the list holds and however long it is, of the kinds that the law makes of its first seven numbers By answers at least one order, and of each order that it answers Kinds answers just these kinds; the law returns true, and the list reads as before.
  Conditions: none.
-/
import Derived.Test.YtdflindoemffaaaVlst
import Derived.Test.YtdflindoemffaaaAlwy
namespace Go.Proofs.Ytdflindoemffaaa
open Go.ChangeShapes Go.WideShapes Go.ChangeAt Go.RowKit

/-- A list that came in, opened. -/
theorem list_ofB {H : Type} {enc : TypeId × Value → H} {W : World} {base : Nat} {v : Value} {d : DataW H} {p : List MemPlace} (hv : Value.okWide Try.prog W .any base 22 v)
    (h : DataW.Trod enc Try.prog W 0 (fun _ => true) true 22 v d p) :
    ∃ (a : Option Addr) (c : Nat) (l : List Int), v = .slice a l.length c ∧ Sg W (.slice a l.length c) l ∧ ∀ i, i < l.length → -9223372036854775808 ≤ gt l i ∧ gt l i ≤ 9223372036854775807 := by
  obtain ⟨a0, n0, c0, rfl⟩ := okWide_slice Try.underlying22 hv
  obtain ⟨fuel, hf⟩ := h
  rcases open_ints Try.underlying22 Try.underlying3 c3 hf with ⟨r2, _⟩ | ⟨x, n, cap, zs, r2, _, hl, _, hz, hy, hcell, hwf⟩
  · simp [Value.cells] at r2
    obtain ⟨rfl, rfl, rfl⟩ := r2
    exact ⟨none, 0, [], rfl, ⟨none, 0, rfl, fun i hi => by simp at hi⟩, fun i hi => by simp at hi⟩
  · simp [Value.cells] at r2
    obtain ⟨rfl, rfl, rfl⟩ := r2
    have hz' : zs.length = c0 := by simpa using hz
    have hlz : (zs.take n0).length = n0 := by rw [List.length_take]; omega
    refine ⟨some x, c0, zs.take n0, by rw [hlz], ⟨some x, c0, rfl, fun i hi => ?_⟩, ?_⟩
    · have hi2 := hi
      rw [hlz] at hi2
      obtain ⟨b, off, rfl, hc'⟩ := ints_at hcell (by omega)
      refine ⟨b, off, rfl, ?_⟩
      rw [hc' i (by omega), gt_lt hi, List.getElem_take, List.getD_eq_getElem?_getD, List.getElem?_eq_getElem (by omega)]
      rfl
    · intro i hi
      have := bounds_i64 (hwf _ (List.mem_of_mem_take (gt_mem hi)))
      exact this
set_option maxRecDepth 100000 in
theorem alw_lifted (os : Os) (started : os.Started) (H : Type) (enc : TypeId × Value → H) :
    ReturnsInHanded {} Try.checked os 7 .any (Rows.stampsAlwaysSpec.pre6 enc Try.prog Try.f7 Rows.stampsAlwaysRow.domain false) (Rows.stampsAlwaysSpec.post enc Try.prog Try.f7 false true false false) := by
  refine returnsInHanded_of_change_shaped (C := Try.checked) own started (by kernel_rfl) Try.func7
    (ChangeSpec.witness6 (enc := enc) (C := Try.checked) false ⟨#[], #[.slice none 0 0], []⟩ 8 (by kernel_rfl) (by kernel_rfl) (by kernel_rfl) (by kernel_rfl)) ?_
  intro W base args ds gs before hval0 hW hcnd hk _ _
  have hval : ∀ (j : Nat) t v, Try.f7.params[j]? = some t → args[j]? = some v → Value.okWide Try.prog W .any base t v := hval0
  have hW' := hW
  obtain ⟨p, q, hA0, hV, rfl, hfz, hnd⟩ := hW
  have hA : DataW.TrodAll enc Try.prog W 0 (fun _ => true) true Try.f7.params.toList args.toList ds p := hA0
  rw [Try.params7] at hA hval
  obtain ⟨v0, vs0, d0, ds0, p0, q0, hargs, rfl, rfl, h0, r0⟩ := trodAll_cons hA
  obtain ⟨rfl, rfl, rfl⟩ := trodAll_nil r0
  obtain rfl : args = #[v0] := by cases args; simp_all
  obtain ⟨rfl, rfl⟩ := trodVars_none hV
  have lt0 : ∀ x ∈ p0, x.block < W.heap.size := by obtain ⟨m, hm⟩ := h0; exact DataW.trod_lt m _ _ _ hm
  obtain ⟨a, c, l, rfl, hs0, hbd⟩ := list_ofB (hval 0 22 v0 rfl rfl) h0
  clear hA0 hval0
  refine (always_any a c l W hs0 hbd).mono fun e W' ⟨he, bel⟩ => ?_
  subst he
  exact ⟨_, rfl, _, _, _, [], _, [], hW', trodAll_mk1 (shut_bool Try.underlying4 _), (trodAll_cons_mk (Below.trod laidOut (by kernel_rfl) (of_decide_eq_true (by kernel_rfl)) h0 bel lt0) trodAll_mk0), rfl, bel.frame _, fun h => by cases h⟩
theorem stampsAlways_holds : Rows.StampsAlwaysSaid :=
  OpenClaim.holds_of_wide 7 Try.f7 rfl rfl rfl rfl rfl rfl rfl ⟨rfl, rfl, rfl, rfl, rfl⟩ rfl rfl rfl rfl rfl (by kernel_rfl) Try.func7 (by kernel_rfl)
    (of_decide_eq_true (by kernel_rfl)) (by unfold Func.isWrapper; first | (rw [if_pos (by decide +kernel)]; kernel_rfl) | (rw [if_neg (by decide +kernel)]; exact ⟨rfl, rfl⟩))
    (fun os started H enc _ => alw_lifted os started H enc)
#print axioms stampsAlways_holds
end Go.Proofs.Ytdflindoemffaaa
