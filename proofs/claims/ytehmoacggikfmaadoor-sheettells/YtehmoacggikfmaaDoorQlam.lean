/- Edges between two points: the grid's edge, the reference's LessPoint and EdgeOf. -/
import Derived.Test.YtehmoacggikfmaaDoorQlac
namespace Go.Proofs.YtehmoacggikfmaaDoor
open Go.RowKit

/-- By X, then Y. -/
def lessB (a b c d : Int) : Bool := decide (a < c ∨ (a = c ∧ b < d))

set_option maxHeartbeats 800000 in
theorem lessPoint_any (a b c d : Int) (w : World) :
    Calls Tryd.prog 31 #[.agg #[.int .i64 a, .int .i64 b], .agg #[.int .i64 c, .int .i64 d]] w fun r w' => r = .returned (.bool (lessB a b c d)) ∧ ∃ o1 o2, w' = (w.alloc o1).alloc o2 := by
  go_enter Tryd.func31, Tryd.ntmps31
  go_wp2
  all_goals
    go_ret
    exact ⟨ret_bool (by rw [Bool.eq_iff_iff]; simp_all [lessB] <;> omega), _, _, rfl⟩

set_option maxHeartbeats 800000 in
theorem edgeOf_turn (a b c d : Int) (w : World) (h : lessB c d a b = true) :
    Calls Tryd.prog 56 #[.agg #[.int .i64 a, .int .i64 b], .agg #[.int .i64 c, .int .i64 d]] w fun r w' => r = .returned (.agg #[.int .i64 c, .int .i64 d, .int .i64 a, .int .i64 b]) ∧ ∃ o1 o2 o3 o4 o5, w' = ((((w.alloc o1).alloc o2).alloc o3).alloc o4).alloc o5 := by
  go_enter Tryd.func56, Tryd.ntmps56
  go_wp2_with (go_at_call 31; refine (lessPoint_any _ _ _ _ _).mono ?_; rintro r w' ⟨rfl, o1, o2, rfl⟩)
  exact bodyPost_ret (v := .agg #[.int .i64 c, .int .i64 d, .int .i64 a, .int .i64 b]) (by simp [results, Tryd.results56, go_sem]) rfl ⟨rfl, _, _, _, _, _, rfl⟩

set_option maxHeartbeats 800000 in
theorem edgeOf_keep (a b c d : Int) (w : World) (h : lessB c d a b = false) :
    Calls Tryd.prog 56 #[.agg #[.int .i64 a, .int .i64 b], .agg #[.int .i64 c, .int .i64 d]] w fun r w' => r = .returned (.agg #[.int .i64 a, .int .i64 b, .int .i64 c, .int .i64 d]) ∧ ∃ o1 o2 o3 o4 o5, w' = ((((w.alloc o1).alloc o2).alloc o3).alloc o4).alloc o5 := by
  go_enter Tryd.func56, Tryd.ntmps56
  go_wp2_with (go_at_call 31; refine (lessPoint_any _ _ _ _ _).mono ?_; rintro r w' ⟨rfl, o1, o2, rfl⟩)
  exact bodyPost_ret (v := .agg #[.int .i64 a, .int .i64 b, .int .i64 c, .int .i64 d]) (by simp [results, Tryd.results56, go_sem]) rfl ⟨rfl, _, _, _, _, _, rfl⟩

set_option maxHeartbeats 1600000 in
theorem edge_any (a b c d : Int) (w : World) :
    Calls Tryd.prog 78 #[.agg #[.int .i64 a, .int .i64 b], .agg #[.int .i64 c, .int .i64 d]] w fun r w' => r = .returned (if lessB c d a b = true then .agg #[.int .i64 c, .int .i64 d, .int .i64 a, .int .i64 b] else .agg #[.int .i64 a, .int .i64 b, .int .i64 c, .int .i64 d]) ∧ ∃ o1 o2 o3, w' = ((w.alloc o1).alloc o2).alloc o3 := by
  by_cases h1 : c < a
  · have e : lessB c d a b = true := by simp [lessB, h1]
    rw [if_pos e]
    clear e
    go_enter Tryd.func78, Tryd.ntmps78
    go_wp2
    exact bodyPost_ret (v := .agg #[.int .i64 c, .int .i64 d, .int .i64 a, .int .i64 b]) (by simp [results, Tryd.results78, go_sem]) rfl ⟨rfl, _, _, _, rfl⟩
  by_cases h2 : c = a
  · subst h2
    by_cases h3 : d < b
    · have e : lessB c d c b = true := by simp [lessB, h3]
      rw [if_pos e]
      clear e
      go_enter Tryd.func78, Tryd.ntmps78
      go_wp2
      exact bodyPost_ret (v := .agg #[.int .i64 c, .int .i64 d, .int .i64 c, .int .i64 b]) (by simp [results, Tryd.results78, go_sem]) rfl ⟨rfl, _, _, _, rfl⟩
    · have e : ¬ lessB c d c b = true := by simp [lessB, h3]
      rw [if_neg e]
      clear e
      go_enter Tryd.func78, Tryd.ntmps78
      go_wp2
      exact bodyPost_ret (v := .agg #[.int .i64 c, .int .i64 b, .int .i64 c, .int .i64 d]) (by simp [results, Tryd.results78, go_sem]) rfl ⟨rfl, _, _, _, rfl⟩
  · have e : ¬ lessB c d a b = true := by simp [lessB, h1, h2]
    rw [if_neg e]
    clear e
    go_enter Tryd.func78, Tryd.ntmps78
    go_wp2
    exact bodyPost_ret (v := .agg #[.int .i64 a, .int .i64 b, .int .i64 c, .int .i64 d]) (by simp [results, Tryd.results78, go_sem]) rfl ⟨rfl, _, _, _, rfl⟩

/-- The four numbers of the edge between two points. -/
def eA (a b c d : Int) : Int := if lessB c d a b = true then c else a
def eB (a b c d : Int) : Int := if lessB c d a b = true then d else b
def eC (a b c d : Int) : Int := if lessB c d a b = true then a else c
def eD (a b c d : Int) : Int := if lessB c d a b = true then b else d

theorem edge_num (a b c d : Int) (w : World) :
    Calls Tryd.prog 78 #[.agg #[.int .i64 a, .int .i64 b], .agg #[.int .i64 c, .int .i64 d]] w fun r w' => r = .returned (.agg #[.int .i64 (eA a b c d), .int .i64 (eB a b c d), .int .i64 (eC a b c d), .int .i64 (eD a b c d)]) ∧ ∃ o1 o2 o3, w' = ((w.alloc o1).alloc o2).alloc o3 := by
  refine (edge_any a b c d w).mono ?_
  rintro r w' ⟨rfl, h⟩
  refine ⟨?_, h⟩
  cases e : lessB c d a b <;> simp [eA, eB, eC, eD, e]

theorem edgeOf_num (a b c d : Int) (w : World) :
    Calls Tryd.prog 56 #[.agg #[.int .i64 a, .int .i64 b], .agg #[.int .i64 c, .int .i64 d]] w fun r w' => r = .returned (.agg #[.int .i64 (eA a b c d), .int .i64 (eB a b c d), .int .i64 (eC a b c d), .int .i64 (eD a b c d)]) ∧ ∃ o1 o2 o3 o4 o5, w' = ((((w.alloc o1).alloc o2).alloc o3).alloc o4).alloc o5 := by
  cases e : lessB c d a b
  · refine (edgeOf_keep a b c d w e).mono ?_
    rintro r w' ⟨rfl, h⟩
    exact ⟨by simp [eA, eB, eC, eD, e], h⟩
  · refine (edgeOf_turn a b c d w e).mono ?_
    rintro r w' ⟨rfl, h⟩
    exact ⟨by simp [eA, eB, eC, eD, e], h⟩

end Go.Proofs.YtehmoacggikfmaaDoor
