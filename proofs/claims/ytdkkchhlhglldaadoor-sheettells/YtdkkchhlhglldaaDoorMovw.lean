/- Where a map brings a triangle: the grid's outward, kindToward and move. -/
import Derived.Test.YtdkkchhlhglldaaDoorMapw
import Derived.Deep.DeepCutAuto
namespace Go.Proofs.YtdkkchhlhglldaaDoor
open Go.RowKit
attribute [local go_sem ↓] Go.wp_at_zero Go.wp_at_succ

def outX (k : Int) : Int := if k = 1 then 1 else if k = 3 then -1 else 0
def outY (k : Int) : Int := if k = 0 then -1 else if k = 2 then 1 else 0

set_option maxHeartbeats 1600000 in
theorem outward_0 (w : World) (hs : Steps w) :
    Calls Tryd.prog 85 #[.int .i64 0] w fun r w' => r = .returned (.agg #[.int .i64 0, .int .i64 (-1)]) ∧ Below w.heap.size w w' := by
  obtain ⟨s0, s1, s2, s3, s4, s5, s6, s7⟩ := hs
  have hz : 0 < w.heap.size := lt_of_cell s0
  have hz' : ¬ w.heap.size = 0 := by omega
  go_enter Tryd.func85, Tryd.ntmps85
  go_wp2
  go_region_held3 (fun w' => w'.cell? ⟨0, 0, none⟩ = some (.int .i64 (-1)) ∧ w'.cell? ⟨0, 1, none⟩ = some (.int .i64 (-1)) ∧ w'.cell? ⟨0, 2, none⟩ = some (.int .i64 1) ∧ w'.cell? ⟨0, 3, none⟩ = some (.int .i64 (-1)))
    ((refine ⟨?_, ?_, ?_, ?_⟩ <;> (first | (with_reducible (repeat (first | assumption | refine al_old ?_ | refine dr_old ?_)); done) | (simp [go_sem, World.cell?_alloc_past, *]; done))))
    (first | (go_at_call 83; refine (plus_any _ _ _ _ _ (by omega) (by omega) (by omega) (by omega) (by omega) (by omega) (by omega) (by omega)).mono ?_; rintro e w2 ⟨rfl, o3, o4, o5, rfl⟩) | (go_at_call 49; refine (turned_any _ _ _ (by omega) (by omega) (by omega) (by omega)).mono ?_; rintro e w2 ⟨rfl, rfl⟩))
  all_goals
    go_wp2
    refine bodyPost_ret (v := .agg #[.int .i64 0, .int .i64 (-1)]) (by simp [results, Tryd.results85, go_sem, World.cell?_alloc_past]) rfl ⟨rfl, ?_⟩
    with_reducible repeat (first | refine bl_alloc ?_ | refine bl_drew ?_ | exact bl_refl _)

set_option maxHeartbeats 1600000 in
theorem outward_1 (w : World) (hs : Steps w) :
    Calls Tryd.prog 85 #[.int .i64 1] w fun r w' => r = .returned (.agg #[.int .i64 1, .int .i64 0]) ∧ Below w.heap.size w w' := by
  obtain ⟨s0, s1, s2, s3, s4, s5, s6, s7⟩ := hs
  have hz : 0 < w.heap.size := lt_of_cell s0
  have hz' : ¬ w.heap.size = 0 := by omega
  go_enter Tryd.func85, Tryd.ntmps85
  go_wp2
  go_region_held3 (fun w' => w'.cell? ⟨0, 2, none⟩ = some (.int .i64 1) ∧ w'.cell? ⟨0, 3, none⟩ = some (.int .i64 (-1)) ∧ w'.cell? ⟨0, 4, none⟩ = some (.int .i64 1) ∧ w'.cell? ⟨0, 5, none⟩ = some (.int .i64 1))
    ((refine ⟨?_, ?_, ?_, ?_⟩ <;> (first | (with_reducible (repeat (first | assumption | refine al_old ?_ | refine dr_old ?_)); done) | (simp [go_sem, World.cell?_alloc_past, *]; done))))
    (first | (go_at_call 83; refine (plus_any _ _ _ _ _ (by omega) (by omega) (by omega) (by omega) (by omega) (by omega) (by omega) (by omega)).mono ?_; rintro e w2 ⟨rfl, o3, o4, o5, rfl⟩) | (go_at_call 49; refine (turned_any _ _ _ (by omega) (by omega) (by omega) (by omega)).mono ?_; rintro e w2 ⟨rfl, rfl⟩))
  all_goals
    go_wp2
    refine bodyPost_ret (v := .agg #[.int .i64 1, .int .i64 0]) (by simp [results, Tryd.results85, go_sem, World.cell?_alloc_past]) rfl ⟨rfl, ?_⟩
    with_reducible repeat (first | refine bl_alloc ?_ | refine bl_drew ?_ | exact bl_refl _)

set_option maxHeartbeats 1600000 in
theorem outward_2 (w : World) (hs : Steps w) :
    Calls Tryd.prog 85 #[.int .i64 2] w fun r w' => r = .returned (.agg #[.int .i64 0, .int .i64 1]) ∧ Below w.heap.size w w' := by
  obtain ⟨s0, s1, s2, s3, s4, s5, s6, s7⟩ := hs
  have hz : 0 < w.heap.size := lt_of_cell s0
  have hz' : ¬ w.heap.size = 0 := by omega
  go_enter Tryd.func85, Tryd.ntmps85
  go_wp2
  go_region_held3 (fun w' => w'.cell? ⟨0, 4, none⟩ = some (.int .i64 1) ∧ w'.cell? ⟨0, 5, none⟩ = some (.int .i64 1) ∧ w'.cell? ⟨0, 6, none⟩ = some (.int .i64 (-1)) ∧ w'.cell? ⟨0, 7, none⟩ = some (.int .i64 1))
    ((refine ⟨?_, ?_, ?_, ?_⟩ <;> (first | (with_reducible (repeat (first | assumption | refine al_old ?_ | refine dr_old ?_)); done) | (simp [go_sem, World.cell?_alloc_past, *]; done))))
    (first | (go_at_call 83; refine (plus_any _ _ _ _ _ (by omega) (by omega) (by omega) (by omega) (by omega) (by omega) (by omega) (by omega)).mono ?_; rintro e w2 ⟨rfl, o3, o4, o5, rfl⟩) | (go_at_call 49; refine (turned_any _ _ _ (by omega) (by omega) (by omega) (by omega)).mono ?_; rintro e w2 ⟨rfl, rfl⟩))
  all_goals
    go_wp2
    refine bodyPost_ret (v := .agg #[.int .i64 0, .int .i64 1]) (by simp [results, Tryd.results85, go_sem, World.cell?_alloc_past]) rfl ⟨rfl, ?_⟩
    with_reducible repeat (first | refine bl_alloc ?_ | refine bl_drew ?_ | exact bl_refl _)

set_option maxHeartbeats 1600000 in
theorem outward_3 (w : World) (hs : Steps w) :
    Calls Tryd.prog 85 #[.int .i64 3] w fun r w' => r = .returned (.agg #[.int .i64 (-1), .int .i64 0]) ∧ Below w.heap.size w w' := by
  obtain ⟨s0, s1, s2, s3, s4, s5, s6, s7⟩ := hs
  have hz : 0 < w.heap.size := lt_of_cell s0
  have hz' : ¬ w.heap.size = 0 := by omega
  go_enter Tryd.func85, Tryd.ntmps85
  go_wp2
  go_region_held3 (fun w' => w'.cell? ⟨0, 6, none⟩ = some (.int .i64 (-1)) ∧ w'.cell? ⟨0, 7, none⟩ = some (.int .i64 1) ∧ w'.cell? ⟨0, 0, none⟩ = some (.int .i64 (-1)) ∧ w'.cell? ⟨0, 1, none⟩ = some (.int .i64 (-1)))
    ((refine ⟨?_, ?_, ?_, ?_⟩ <;> (first | (with_reducible (repeat (first | assumption | refine al_old ?_ | refine dr_old ?_)); done) | (simp [go_sem, World.cell?_alloc_past, *]; done))))
    (first | (go_at_call 83; refine (plus_any _ _ _ _ _ (by omega) (by omega) (by omega) (by omega) (by omega) (by omega) (by omega) (by omega)).mono ?_; rintro e w2 ⟨rfl, o3, o4, o5, rfl⟩) | (go_at_call 49; refine (turned_any _ _ _ (by omega) (by omega) (by omega) (by omega)).mono ?_; rintro e w2 ⟨rfl, rfl⟩))
  all_goals
    go_wp2
    refine bodyPost_ret (v := .agg #[.int .i64 (-1), .int .i64 0]) (by simp [results, Tryd.results85, go_sem, World.cell?_alloc_past]) rfl ⟨rfl, ?_⟩
    with_reducible repeat (first | refine bl_alloc ?_ | refine bl_drew ?_ | exact bl_refl _)

theorem outward_any (k : Int) (w : World) (h0 : 0 ≤ k) (h3 : k ≤ 3) (hs : Steps w) :
    Calls Tryd.prog 85 #[.int .i64 k] w fun r w' => r = .returned (.agg #[.int .i64 (outX k), .int .i64 (outY k)]) ∧ Below w.heap.size w w' := by
  have hk : k = 0 ∨ k = 1 ∨ k = 2 ∨ k = 3 := by omega
  rcases hk with rfl | rfl | rfl | rfl
  · exact outward_0 w hs
  · exact outward_1 w hs
  · exact outward_2 w hs
  · exact outward_3 w hs

set_option maxHeartbeats 1600000 in
theorem kindToward_0 (w : World) (hs : Steps w) :
    Calls Tryd.prog 91 #[.agg #[.int .i64 0, .int .i64 (-1)]] w fun r w' => r = .returned (.int .i64 0) ∧ Below w.heap.size w w' := by
  have hs0 : Steps (w.alloc (.cells #[.int .i64 0, .int .i64 (-1)] 25)) := hs.kept (bl_alloc (bl_refl _))
  have p0 : Pt (w.alloc (.cells #[.int .i64 0, .int .i64 (-1)] 25)) w.heap.size 0 (-1) := by simp [Pt, go_sem]
  obtain ⟨x0, y0⟩ := p0
  clear hs
  go_enter Tryd.func91, Tryd.ntmps91
  go_wp2
  refine wp_loop_rounds 5 ?_
  rw [rounds_succ]
  go_wp2
  go_region_held3 (fun w' => w'.cell? ⟨w.heap.size, 0, none⟩ = some (.int .i64 0) ∧ w'.cell? ⟨w.heap.size, 1, none⟩ = some (.int .i64 (-1)) ∧ Steps w')
    ((go_split_ands; refine ⟨?_, ?_, ?_⟩ <;> (first | assumption | (refine dr_old ?_; assumption) | (exact cl_kept (by assumption) (by assumption)) | (exact Steps.kept (by assumption) (by assumption)) | (exact Steps.kept (w := _) (by assumption) (bl_drew (bl_refl _))))))
    (first | (go_at_call 85; refine (outward_0 _ (by go_split_ands; first | assumption | exact Steps.kept (by assumption) (bl_drew (bl_refl _)))).mono ?_; rintro e w2 ⟨rfl, hb2⟩))
  go_wp2
  go_ret
  exact ⟨rfl, bl_via (bl_drew (bl_alloc (bl_refl _))) hb2⟩

set_option maxHeartbeats 1600000 in
theorem kindToward_1 (w : World) (hs : Steps w) :
    Calls Tryd.prog 91 #[.agg #[.int .i64 1, .int .i64 0]] w fun r w' => r = .returned (.int .i64 1) ∧ Below w.heap.size w w' := by
  have hs0 : Steps (w.alloc (.cells #[.int .i64 1, .int .i64 0] 25)) := hs.kept (bl_alloc (bl_refl _))
  have p0 : Pt (w.alloc (.cells #[.int .i64 1, .int .i64 0] 25)) w.heap.size 1 0 := by simp [Pt, go_sem]
  obtain ⟨x0, y0⟩ := p0
  clear hs
  go_enter Tryd.func91, Tryd.ntmps91
  go_wp2
  refine wp_loop_rounds 5 ?_
  rw [rounds_succ]
  go_wp2
  go_region_held3 (fun w' => w'.cell? ⟨w.heap.size, 0, none⟩ = some (.int .i64 1) ∧ w'.cell? ⟨w.heap.size, 1, none⟩ = some (.int .i64 0) ∧ Steps w')
    ((go_split_ands; refine ⟨?_, ?_, ?_⟩ <;> (first | assumption | (refine dr_old ?_; assumption) | (exact cl_kept (by assumption) (by assumption)) | (exact Steps.kept (by assumption) (by assumption)) | (exact Steps.kept (w := _) (by assumption) (bl_drew (bl_refl _))))))
    (first | (go_at_call 85; refine (outward_0 _ (by go_split_ands; first | assumption | exact Steps.kept (by assumption) (bl_drew (bl_refl _)))).mono ?_; rintro e w2 ⟨rfl, hb2⟩))
  go_wp2
  rw [rounds_succ]
  go_wp2
  go_region_held3 (fun w' => w'.cell? ⟨w.heap.size, 0, none⟩ = some (.int .i64 1) ∧ w'.cell? ⟨w.heap.size, 1, none⟩ = some (.int .i64 0) ∧ Steps w')
    ((go_split_ands; refine ⟨?_, ?_, ?_⟩ <;> (first | assumption | (refine dr_old ?_; assumption) | (exact cl_kept (by assumption) (by assumption)) | (exact Steps.kept (by assumption) (by assumption)) | (exact Steps.kept (w := _) (by assumption) (bl_drew (bl_refl _))))))
    (first | (go_at_call 85; refine (outward_1 _ (by go_split_ands; first | assumption | exact Steps.kept (by assumption) (bl_drew (bl_refl _)))).mono ?_; rintro e w3 ⟨rfl, hb3⟩))
  go_wp2
  go_ret
  exact ⟨rfl, bl_via (bl_drew (bl_via (bl_drew (bl_alloc (bl_refl _))) hb2)) hb3⟩

set_option maxHeartbeats 1600000 in
theorem kindToward_2 (w : World) (hs : Steps w) :
    Calls Tryd.prog 91 #[.agg #[.int .i64 0, .int .i64 1]] w fun r w' => r = .returned (.int .i64 2) ∧ Below w.heap.size w w' := by
  have hs0 : Steps (w.alloc (.cells #[.int .i64 0, .int .i64 1] 25)) := hs.kept (bl_alloc (bl_refl _))
  have p0 : Pt (w.alloc (.cells #[.int .i64 0, .int .i64 1] 25)) w.heap.size 0 1 := by simp [Pt, go_sem]
  obtain ⟨x0, y0⟩ := p0
  clear hs
  go_enter Tryd.func91, Tryd.ntmps91
  go_wp2
  refine wp_loop_rounds 5 ?_
  rw [rounds_succ]
  go_wp2
  go_region_held3 (fun w' => w'.cell? ⟨w.heap.size, 0, none⟩ = some (.int .i64 0) ∧ w'.cell? ⟨w.heap.size, 1, none⟩ = some (.int .i64 1) ∧ Steps w')
    ((go_split_ands; refine ⟨?_, ?_, ?_⟩ <;> (first | assumption | (refine dr_old ?_; assumption) | (exact cl_kept (by assumption) (by assumption)) | (exact Steps.kept (by assumption) (by assumption)) | (exact Steps.kept (w := _) (by assumption) (bl_drew (bl_refl _))))))
    (first | (go_at_call 85; refine (outward_0 _ (by go_split_ands; first | assumption | exact Steps.kept (by assumption) (bl_drew (bl_refl _)))).mono ?_; rintro e w2 ⟨rfl, hb2⟩))
  go_wp2
  rw [rounds_succ]
  go_wp2
  go_region_held3 (fun w' => w'.cell? ⟨w.heap.size, 0, none⟩ = some (.int .i64 0) ∧ w'.cell? ⟨w.heap.size, 1, none⟩ = some (.int .i64 1) ∧ Steps w')
    ((go_split_ands; refine ⟨?_, ?_, ?_⟩ <;> (first | assumption | (refine dr_old ?_; assumption) | (exact cl_kept (by assumption) (by assumption)) | (exact Steps.kept (by assumption) (by assumption)) | (exact Steps.kept (w := _) (by assumption) (bl_drew (bl_refl _))))))
    (first | (go_at_call 85; refine (outward_1 _ (by go_split_ands; first | assumption | exact Steps.kept (by assumption) (bl_drew (bl_refl _)))).mono ?_; rintro e w3 ⟨rfl, hb3⟩))
  go_wp2
  rw [rounds_succ]
  go_wp2
  go_region_held3 (fun w' => w'.cell? ⟨w.heap.size, 0, none⟩ = some (.int .i64 0) ∧ w'.cell? ⟨w.heap.size, 1, none⟩ = some (.int .i64 1) ∧ Steps w')
    ((go_split_ands; refine ⟨?_, ?_, ?_⟩ <;> (first | assumption | (refine dr_old ?_; assumption) | (exact cl_kept (by assumption) (by assumption)) | (exact Steps.kept (by assumption) (by assumption)) | (exact Steps.kept (w := _) (by assumption) (bl_drew (bl_refl _))))))
    (first | (go_at_call 85; refine (outward_2 _ (by go_split_ands; first | assumption | exact Steps.kept (by assumption) (bl_drew (bl_refl _)))).mono ?_; rintro e w4 ⟨rfl, hb4⟩))
  go_wp2
  go_ret
  exact ⟨rfl, bl_via (bl_drew (bl_via (bl_drew (bl_via (bl_drew (bl_alloc (bl_refl _))) hb2)) hb3)) hb4⟩

set_option maxHeartbeats 1600000 in
theorem kindToward_3 (w : World) (hs : Steps w) :
    Calls Tryd.prog 91 #[.agg #[.int .i64 (-1), .int .i64 0]] w fun r w' => r = .returned (.int .i64 3) ∧ Below w.heap.size w w' := by
  have hs0 : Steps (w.alloc (.cells #[.int .i64 (-1), .int .i64 0] 25)) := hs.kept (bl_alloc (bl_refl _))
  have p0 : Pt (w.alloc (.cells #[.int .i64 (-1), .int .i64 0] 25)) w.heap.size (-1) 0 := by simp [Pt, go_sem]
  obtain ⟨x0, y0⟩ := p0
  clear hs
  go_enter Tryd.func91, Tryd.ntmps91
  go_wp2
  refine wp_loop_rounds 5 ?_
  rw [rounds_succ]
  go_wp2
  go_region_held3 (fun w' => w'.cell? ⟨w.heap.size, 0, none⟩ = some (.int .i64 (-1)) ∧ w'.cell? ⟨w.heap.size, 1, none⟩ = some (.int .i64 0) ∧ Steps w')
    ((go_split_ands; refine ⟨?_, ?_, ?_⟩ <;> (first | assumption | (refine dr_old ?_; assumption) | (exact cl_kept (by assumption) (by assumption)) | (exact Steps.kept (by assumption) (by assumption)) | (exact Steps.kept (w := _) (by assumption) (bl_drew (bl_refl _))))))
    (first | (go_at_call 85; refine (outward_0 _ (by go_split_ands; first | assumption | exact Steps.kept (by assumption) (bl_drew (bl_refl _)))).mono ?_; rintro e w2 ⟨rfl, hb2⟩))
  go_wp2
  rw [rounds_succ]
  go_wp2
  go_region_held3 (fun w' => w'.cell? ⟨w.heap.size, 0, none⟩ = some (.int .i64 (-1)) ∧ w'.cell? ⟨w.heap.size, 1, none⟩ = some (.int .i64 0) ∧ Steps w')
    ((go_split_ands; refine ⟨?_, ?_, ?_⟩ <;> (first | assumption | (refine dr_old ?_; assumption) | (exact cl_kept (by assumption) (by assumption)) | (exact Steps.kept (by assumption) (by assumption)) | (exact Steps.kept (w := _) (by assumption) (bl_drew (bl_refl _))))))
    (first | (go_at_call 85; refine (outward_1 _ (by go_split_ands; first | assumption | exact Steps.kept (by assumption) (bl_drew (bl_refl _)))).mono ?_; rintro e w3 ⟨rfl, hb3⟩))
  go_wp2
  rw [rounds_succ]
  go_wp2
  go_region_held3 (fun w' => w'.cell? ⟨w.heap.size, 0, none⟩ = some (.int .i64 (-1)) ∧ w'.cell? ⟨w.heap.size, 1, none⟩ = some (.int .i64 0) ∧ Steps w')
    ((go_split_ands; refine ⟨?_, ?_, ?_⟩ <;> (first | assumption | (refine dr_old ?_; assumption) | (exact cl_kept (by assumption) (by assumption)) | (exact Steps.kept (by assumption) (by assumption)) | (exact Steps.kept (w := _) (by assumption) (bl_drew (bl_refl _))))))
    (first | (go_at_call 85; refine (outward_2 _ (by go_split_ands; first | assumption | exact Steps.kept (by assumption) (bl_drew (bl_refl _)))).mono ?_; rintro e w4 ⟨rfl, hb4⟩))
  go_wp2
  rw [rounds_succ]
  go_wp2
  go_region_held3 (fun w' => w'.cell? ⟨w.heap.size, 0, none⟩ = some (.int .i64 (-1)) ∧ w'.cell? ⟨w.heap.size, 1, none⟩ = some (.int .i64 0) ∧ Steps w')
    ((go_split_ands; refine ⟨?_, ?_, ?_⟩ <;> (first | assumption | (refine dr_old ?_; assumption) | (exact cl_kept (by assumption) (by assumption)) | (exact Steps.kept (by assumption) (by assumption)) | (exact Steps.kept (w := _) (by assumption) (bl_drew (bl_refl _))))))
    (first | (go_at_call 85; refine (outward_3 _ (by go_split_ands; first | assumption | exact Steps.kept (by assumption) (bl_drew (bl_refl _)))).mono ?_; rintro e w5 ⟨rfl, hb5⟩))
  go_wp2
  go_ret
  exact ⟨rfl, bl_via (bl_drew (bl_via (bl_drew (bl_via (bl_drew (bl_via (bl_drew (bl_alloc (bl_refl _))) hb2)) hb3)) hb4)) hb5⟩

theorem kindToward_any (K : Int) (w : World) (h0 : 0 ≤ K) (h3 : K ≤ 3) (hs : Steps w) :
    Calls Tryd.prog 91 #[.agg #[.int .i64 (outX K), .int .i64 (outY K)]] w fun r w' => r = .returned (.int .i64 K) ∧ Below w.heap.size w w' := by
  have hk : K = 0 ∨ K = 1 ∨ K = 2 ∨ K = 3 := by omega
  rcases hk with rfl | rfl | rfl | rfl
  · exact kindToward_0 w hs
  · exact kindToward_1 w hs
  · exact kindToward_2 w hs
  · exact kindToward_3 w hs

theorem outX_bd (k : Int) : -1 ≤ outX k ∧ outX k ≤ 1 := by unfold outX; split <;> (try split) <;> omega
theorem outY_bd (k : Int) : -1 ≤ outY k ∧ outY k ≤ 1 := by unfold outY; split <;> (try split) <;> omega

end Go.Proofs.YtdkkchhlhglldaaDoor
