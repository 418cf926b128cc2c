/- The reference's order of edges; the place of a triangle in a list. -/
import Derived.Test.YtehmoacggikfmaaDoorQlaz
namespace Go.Proofs.YtehmoacggikfmaaDoor
open Go.RowKit
attribute [local go_sem ↓] Go.wp_at_zero Go.wp_at_succ

theorem eql25 (a b p q : Int) (w : World) :
    (binOp .eql 44 (.agg #[.int .i64 a, .int .i64 b]) (.agg #[.int .i64 p, .int .i64 q])).run Tryd.prog w = .ok (.bool (decide (a = p ∧ b = q))) w := by
  by_cases h1 : a = p
  · subst h1
    by_cases h2 : b = q
    · subst h2
      simp [go_sem]
    · have e : (b == q) = false := by simpa using h2
      simp [go_sem, e, h2]
  · have e : (a == p) = false := by simpa using h1
    simp [go_sem, e, h1]

/-- By the first point, then by the second. -/
def lessE (a b c d p q r s : Int) : Bool := lessB a b p q || (decide (a = p ∧ b = q) && lessB c d r s)

set_option maxHeartbeats 1600000 in
theorem lessEdge_any (a b c d p q r s : Int) (w : World) :
    Calls Tryd.prog 15 #[.agg #[.int .i64 a, .int .i64 b, .int .i64 c, .int .i64 d], .agg #[.int .i64 p, .int .i64 q, .int .i64 r, .int .i64 s]] w fun e w' => e = .returned (.bool (lessE a b c d p q r s)) ∧ Below w.heap.size w w' := by
  have he := eql25
  cases h1 : lessB a b p q
  · cases h2 : decide (a = p ∧ b = q)
    · have HE : Hid (lessE a b c d p q r s = false) := by show lessE a b c d p q r s = false; simp only [lessE, h1, h2]; rfl
      go_enter Tryd.func15, Tryd.ntmps15
      go_wp2_with (go_at_call 31; refine (lessPoint_any _ _ _ _ _).mono ?_; rintro e w' ⟨rfl, o1, o2, rfl⟩)
      go_ret
      refine ⟨by rw [HE.out]; rfl, ?_⟩
      with_reducible repeat' (first | exact bl_refl _ | refine bl_alloc ?_ | refine bl_drew ?_)
    · have HE : Hid (lessE a b c d p q r s = lessB c d r s) := by show lessE a b c d p q r s = lessB c d r s; simp only [lessE, h1, h2]; simp
      go_enter Tryd.func15, Tryd.ntmps15
      go_wp2_with (go_at_call 31; refine (lessPoint_any _ _ _ _ _).mono ?_; rintro e w' ⟨rfl, o1, o2, rfl⟩)
      go_ret
      refine ⟨by rw [HE.out]; rfl, ?_⟩
      with_reducible repeat' (first | exact bl_refl _ | refine bl_alloc ?_ | refine bl_drew ?_)
  · have HE : Hid (lessE a b c d p q r s = true) := by show lessE a b c d p q r s = true; simp only [lessE, h1]; rfl
    go_enter Tryd.func15, Tryd.ntmps15
    go_wp2_with (go_at_call 31; refine (lessPoint_any _ _ _ _ _).mono ?_; rintro e w' ⟨rfl, o1, o2, rfl⟩)
    go_ret
    refine ⟨by rw [HE.out]; rfl, ?_⟩
    with_reducible repeat' (first | exact bl_refl _ | refine bl_alloc ?_ | refine bl_drew ?_)

/-- Both orders are one. -/
theorem cmpE_less (a b c d p q r s : Int) : cmpE a b c d p q r s < 0 ↔ lessE a b c d p q r s = true := by
  unfold cmpE cmpP or2 cmp3 lessE lessB
  simp only [Bool.or_eq_true, Bool.and_eq_true, decide_eq_true_eq]
  split <;> rename_i h1 <;> (repeat' split at h1) <;> (repeat' split) <;> omega

/-- Where a triangle stands in a list; -1: nowhere. -/
def plc (l : List (Int × Int × Int)) (t : Int × Int × Int) : Int := if t ∈ l then (l.idxOf t : Int) else -1
theorem plc_at {l : List (Int × Int × Int)} {t : Int × Int × Int} {i : Nat} (hi : i < l.length) (he : l[i] = t) (hn : ∀ j (hj : j < l.length), j < i → l[j] ≠ t) : plc l t = i := by
  have hm : t ∈ l := he ▸ List.getElem_mem hi
  have h1 := List.idxOf_lt_length_of_mem hm
  have h2 : l[l.idxOf t] = t := List.getElem_idxOf h1
  have h3 : l.idxOf t = i := by
    rcases Nat.lt_trichotomy (l.idxOf t) i with h | h | h
    · exact absurd h2 (hn _ h1 h)
    · exact h
    · simp [List.idxOf] at h
      obtain ⟨_, hh⟩ := h
      exact absurd he (hh i (Nat.le_refl _))
  simp [plc, hm, h3]
theorem plc_not {l : List (Int × Int × Int)} {t : Int × Int × Int} (hn : ∀ j (hj : j < l.length), l[j] ≠ t) : plc l t = -1 := by
  have hm : ¬ t ∈ l := fun h => by
    obtain ⟨j, hj, e⟩ := List.getElem_of_mem h
    exact hn j hj e
  simp [plc, hm]

set_option maxHeartbeats 1600000 in
theorem placeOf_any (a : Option Addr) (cap : Nat) (l : List (Int × Int × Int)) (x y k : Int) (w : World) (hT : TRow w a l) (hlen : l.length ≤ 256) :
    Calls Tryd.prog 46 #[.slice a l.length cap, .agg #[.int .i64 x, .int .i64 y, .int .i64 k]] w fun e w' => e = .returned (.int .i64 (plc l (x, y, k))) ∧ Below w.heap.size w w' := by
  have he := eql23
  have HT : Hid (TRow w a l) := hT
  clear hT
  go_enter Tryd.func46, Tryd.ntmps46
  go_wp2
  go_loopg [5] l.length (fun g s5 wx => ∃ i : Nat, i ≤ l.length ∧ g = l.length - i ∧ s5 = .int .i64 (i : Int) ∧ (∀ j (hj : j < l.length), j < i → l[j] ≠ (x, y, k)) ∧ (Tr wx w.heap.size x y k ∧ Below w.heap.size w wx))
  case atStart => exact ⟨0, by omega, rfl, rfl, fun j _ h => by omega, by simp [Tr, go_sem], bl_alloc (bl_refl _)⟩
  case round =>
    obtain ⟨i, hi, rfl, rfl, hp, ⟨t0, t1, t2⟩, hB⟩ := hrel
    have HP : Hid (∀ j (hj : j < l.length), j < i → l[j] ≠ (x, y, k)) := hp
    have HB : Hid (Below w.heap.size w wr) := hB
    have HTr : Hid (Tr wr w.heap.size x y k) := ⟨t0, t1, t2⟩
    clear hp hB
    by_cases h1 : i < l.length
    · have i1 : (i : Int) < (l.length : Int) := by omega
      have i0 : (0 : Int) ≤ (i : Int) := by omega
      obtain ⟨g, rfl, c0, c1, c2⟩ := (HT.out.kept HB.out) i h1
      obtain ⟨t, ht⟩ : ∃ t, t = l[i] := ⟨_, rfl⟩
      obtain ⟨X, Y, K⟩ := t
      rw [← ht] at c0 c1 c2
      dsimp only at c0 c1 c2
      have HE : Hid ((X, Y, K) = l[i]) := ht
      clear ht
      have zg : g < wr.heap.size := World.block_lt_of_cell? _ _ c0
      have zt : w.heap.size < wr.heap.size := World.block_lt_of_cell? _ _ t0
      cases hq : sameT X Y K x y k
      · go_wp2
        go_quiet (fail)
        go_wp2
        go_roundg (l.length - (i + 1))
        case measure => omega
        case rel =>
          refine ⟨i + 1, by omega, rfl, by go_num, fun j hj h => ?_, HTr.out, ?_⟩
          · by_cases e : j = i
            · subst e
              rw [← HE.out]
              intro hc
              simp at hc
              simp [sameT, hc] at hq
            · exact HP.out j hj (by omega)
          · with_reducible repeat' (first | exact HB.out | refine bl_drewN ?_ | refine bl_drew ?_)
      · go_wp2
        go_quiet (fail)
        go_wp2
        go_ret
        refine ⟨ret_int ?_, ?_⟩
        · refine (plc_at h1 ?_ HP.out).symm
          rw [← HE.out]
          simpa [sameT] using hq
        · with_reducible repeat' (first | exact HB.out | refine bl_drewN ?_ | refine bl_drew ?_)
    · have i1 : ¬ (i : Int) < (l.length : Int) := by omega
      go_wp2
      go_ret
      exact ⟨ret_int (plc_not (fun j hj => HP.out j hj (by omega))).symm, HB.out⟩
end Go.Proofs.YtehmoacggikfmaaDoor
