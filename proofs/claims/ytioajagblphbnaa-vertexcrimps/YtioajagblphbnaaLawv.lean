/- The law VertexFlat. -/
import Derived.Test.YtioajagblphbnaaOrds
namespace Go.Proofs.Ytioajagblphbnaa
open Go.RowKit

theorem run_append_nothing {P : Program} (w : World) (t ty e : TypeId) (i : TypeInfo) (ht : P.underlying t = some (.slice e)) (hi : P.info? e = some i) (ao : Option Addr) (c : Nat) :
    (Builtin.append_ #[t, t] ty #[.slice none 0 0, .slice ao 0 c]).run P w = .ok (.slice none 0 0) w := by
  cases ao <;> simp [Builtin.append_, run_underlying ht, run_sizeOf w hi, Builtin.lenOf, Builtin.firstCells, loadCells, loadCellsFrom]
theorem wpList_append_nothing {P : Program} (w : World) {ops : Array Oper} {rest : List Oper} {o : Oper} {a : Act} {Q : Exit → Act → World → Prop} (hgd : o.guard = none) (s x : Operand) (t : TypeId)
    (ho : o.op = .call { callee := .builtin .append, args := #[s, x], argTypes := #[t, t] })
    (e : TypeId) (i : TypeInfo) (ht : P.underlying t = some (.slice e)) (hi : P.info? e = some i) (ao : Option Addr) (c : Nat)
    (hs : a.eval s = .slice none 0 0) (hx : a.eval x = .slice ao 0 c)
    (h : wpList P ops Q rest (a.put o.dst (.slice none 0 0)) w) : wpList P ops Q (o :: rest) a w := by
  refine wpList_plain hgd fun K hK => ?_
  have hrun := run_append_nothing (P := P) w t o.type e i ht hi ao c
  unfold Oper.wp
  simp [execOp, ho, resolve, invoke, builtin, hs, hx, hrun, Result.andThen]
  exact hK _ _ h
theorem past_congr {X Y : List Int} {n k j : Nat} (h : ∀ i, i < n → gt X i = gt Y i) (hk : k < n) (hj : j < n) : pastB X n k j = pastB Y n k j := by
  unfold pastB
  rw [h k hk, h j hj, h _ (Nat.mod_lt _ (by omega))]
theorem all_congr' {l : List Nat} {p q : Nat → Bool} (h : ∀ x ∈ l, p x = q x) : l.all p = l.all q := by
  induction l with
  | nil => rfl
  | cons x r ih => rw [List.all_cons, List.all_cons, h x (by simp), ih (fun y hy => h y (by simp [hy]))]
theorem any_congr' {l : List Nat} {p q : Nat → Bool} (h : ∀ x ∈ l, p x = q x) : l.any p = l.any q := by
  induction l with
  | nil => rfl
  | cons x r ih => rw [List.any_cons, List.any_cons, h x (by simp), ih (fun y hy => h y (by simp [hy]))]
theorem good_congr {X Y : List Int} {n : Nat} {ks hh : List Int} (h : ∀ i, i < n → gt X i = gt Y i) (h0 : 0 < hh.length) (hn : hh.length ≤ n) : goodB X n ks hh = goodB Y n ks hh := by
  unfold goodB
  apply all_congr'
  intro j hj
  have hj := List.mem_range.1 hj
  have hp : ∀ k, k < hh.length → piercedB X n hh j k = piercedB Y n hh j k := fun k hk => by
    unfold piercedB
    rw [past_congr h (by omega) hj]
  have hc : crossedB X n hh j = crossedB Y n hh j := by
    unfold crossedB
    rw [any_congr' (fun k hk => hp k (List.mem_range.1 hk))]
    congr 1
    apply any_congr'
    intro i hi
    unfold meetB
    rw [h i (List.mem_range.1 hi), h j hj]
  unfold well
  rw [hp _ (by omega), hc]
theorem goF_congr {X Y : List Int} {n : Nat} {ks : List Int} (h : ∀ i, i < n → gt X i = gt Y i) : ∀ f hh, hh.length + f ≤ n → goF X n ks f hh = goF Y n ks f hh
  | 0, _, _ => rfl
  | f + 1, hh, hl => by
    unfold goF
    apply any_congr'
    intro t _
    rw [good_congr h (by rw [laid_len]; omega) (by rw [laid_len]; omega), goF_congr h f _ (by rw [laid_len]; omega)]
theorem plc_plc {l : List Int} (hb : ∀ i, i < l.length → 1 ≤ gt l i ∧ gt l i ≤ 1000) (h0 : xf l l.length = 0) : Plc (plc l l.length) l.length := by
  refine ⟨fun k hk => ?_, ?_⟩
  · rw [plc_at (by omega), plc_at (by omega)]
    have := hb k hk
    constructor
    · intro e
      rw [xf, if_pos e]
      omega
    · intro e
      rw [xf, if_neg (by omega)]
      omega
  · rw [plc_at (Nat.le_refl _), plc_at (Nat.zero_le _), h0]
    rfl
theorem p11_bd {ks : List Int} (h : ks.any p11 = false) : ∀ i, i < ks.length → gt ks i = 1 ∨ gt ks i = 2 := fun i hi => by
  rw [List.any_eq_false] at h
  have := h ks[i] (List.getElem_mem hi)
  rw [← gt_lt hi] at this
  simp only [p11, Bool.and_eq_true, decide_eq_true_eq, not_and] at this
  omega
/-- The two searches tell the same. -/
theorem same_told {l ks : List Int} (hw : wrongV l = 0) (hk : ks.any p11 = false) (hl : ks.length = l.length) : goF (dsk l) l.length ks l.length [] = true ↔ Ord (plc l l.length) l.length (numK ks l.length) := by
  obtain ⟨w1, w2, w3⟩ := wrong_none hw
  obtain ⟨n2, n8, ne⟩ := bad_none w1
  rw [goF_congr (X := dsk l) (Y := plc l l.length) (fun i hi => by rw [dsk_at hi, plc_at (by omega)]) l.length [] (by simp)]
  exact goes_iff n2 ne (plc_plc (p16_bd w2) w3) (fun i hi => p11_bd hk i (by omega))
end Go.Proofs.Ytioajagblphbnaa
