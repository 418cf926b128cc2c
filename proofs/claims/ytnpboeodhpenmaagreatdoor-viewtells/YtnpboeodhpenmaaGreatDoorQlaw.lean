/- grid.Move. -/
import Derived.Test.YtnpboeodhpenmaaGreatDoorQlan
import Derived.Test.YtnpboeodhpenmaaGreatDoorQlag
namespace Go.Proofs.YtnpboeodhpenmaaGreatDoor
open Go.RowKit
attribute [local go_sem ↓] Go.wp_at_zero Go.wp_at_succ

set_option maxHeartbeats 1600000 in
theorem outward_0 (w : World) (hs : Steps w) :
    Calls Tryz.prog 182 #[.int .i64 0] w fun r w' => r = .returned (.agg #[.int .i64 0, .int .i64 (-1)]) ∧ Below w.heap.size w w' := by
  obtain ⟨s0, s1, s2, s3, s4, s5, s6, s7⟩ := hs
  have hz : 0 < w.heap.size := lt_of_cell s0
  have hz' : ¬ w.heap.size = 0 := by omega
  go_enter Tryz.func182, Tryz.ntmps182
  go_wp2
  go_region_held3 (fun w' => w'.cell? ⟨0, 0, none⟩ = some (.int .i64 (-1)) ∧ w'.cell? ⟨0, 1, none⟩ = some (.int .i64 (-1)) ∧ w'.cell? ⟨0, 2, none⟩ = some (.int .i64 1) ∧ w'.cell? ⟨0, 3, none⟩ = some (.int .i64 (-1)))
    ((refine ⟨?_, ?_, ?_, ?_⟩ <;> (first | (with_reducible (repeat (first | assumption | refine al_old ?_ | refine dr_old ?_)); done) | (simp [go_sem, World.cell?_alloc_past, *]; done))))
    (first | (go_at_call 183; refine (plus_any _ _ _ _ _ (by omega) (by omega) (by omega) (by omega) (by omega) (by omega) (by omega) (by omega)).mono ?_; rintro e w2 ⟨rfl, o3, o4, o5, rfl⟩) | (go_at_call 184; refine (turned_any _ _ _ (by omega) (by omega) (by omega) (by omega)).mono ?_; rintro e w2 ⟨rfl, rfl⟩))
  all_goals
    go_wp2
    refine bodyPost_ret (v := .agg #[.int .i64 0, .int .i64 (-1)]) (by simp [results, Tryz.results182, go_sem, World.cell?_alloc_past]) rfl ⟨rfl, ?_⟩
    with_reducible repeat (first | refine bl_alloc ?_ | refine bl_drew ?_ | exact bl_refl _)

set_option maxHeartbeats 1600000 in
theorem outward_1 (w : World) (hs : Steps w) :
    Calls Tryz.prog 182 #[.int .i64 1] w fun r w' => r = .returned (.agg #[.int .i64 1, .int .i64 0]) ∧ Below w.heap.size w w' := by
  obtain ⟨s0, s1, s2, s3, s4, s5, s6, s7⟩ := hs
  have hz : 0 < w.heap.size := lt_of_cell s0
  have hz' : ¬ w.heap.size = 0 := by omega
  go_enter Tryz.func182, Tryz.ntmps182
  go_wp2
  go_region_held3 (fun w' => w'.cell? ⟨0, 2, none⟩ = some (.int .i64 1) ∧ w'.cell? ⟨0, 3, none⟩ = some (.int .i64 (-1)) ∧ w'.cell? ⟨0, 4, none⟩ = some (.int .i64 1) ∧ w'.cell? ⟨0, 5, none⟩ = some (.int .i64 1))
    ((refine ⟨?_, ?_, ?_, ?_⟩ <;> (first | (with_reducible (repeat (first | assumption | refine al_old ?_ | refine dr_old ?_)); done) | (simp [go_sem, World.cell?_alloc_past, *]; done))))
    (first | (go_at_call 183; refine (plus_any _ _ _ _ _ (by omega) (by omega) (by omega) (by omega) (by omega) (by omega) (by omega) (by omega)).mono ?_; rintro e w2 ⟨rfl, o3, o4, o5, rfl⟩) | (go_at_call 184; refine (turned_any _ _ _ (by omega) (by omega) (by omega) (by omega)).mono ?_; rintro e w2 ⟨rfl, rfl⟩))
  all_goals
    go_wp2
    refine bodyPost_ret (v := .agg #[.int .i64 1, .int .i64 0]) (by simp [results, Tryz.results182, go_sem, World.cell?_alloc_past]) rfl ⟨rfl, ?_⟩
    with_reducible repeat (first | refine bl_alloc ?_ | refine bl_drew ?_ | exact bl_refl _)

set_option maxHeartbeats 1600000 in
theorem outward_2 (w : World) (hs : Steps w) :
    Calls Tryz.prog 182 #[.int .i64 2] w fun r w' => r = .returned (.agg #[.int .i64 0, .int .i64 1]) ∧ Below w.heap.size w w' := by
  obtain ⟨s0, s1, s2, s3, s4, s5, s6, s7⟩ := hs
  have hz : 0 < w.heap.size := lt_of_cell s0
  have hz' : ¬ w.heap.size = 0 := by omega
  go_enter Tryz.func182, Tryz.ntmps182
  go_wp2
  go_region_held3 (fun w' => w'.cell? ⟨0, 4, none⟩ = some (.int .i64 1) ∧ w'.cell? ⟨0, 5, none⟩ = some (.int .i64 1) ∧ w'.cell? ⟨0, 6, none⟩ = some (.int .i64 (-1)) ∧ w'.cell? ⟨0, 7, none⟩ = some (.int .i64 1))
    ((refine ⟨?_, ?_, ?_, ?_⟩ <;> (first | (with_reducible (repeat (first | assumption | refine al_old ?_ | refine dr_old ?_)); done) | (simp [go_sem, World.cell?_alloc_past, *]; done))))
    (first | (go_at_call 183; refine (plus_any _ _ _ _ _ (by omega) (by omega) (by omega) (by omega) (by omega) (by omega) (by omega) (by omega)).mono ?_; rintro e w2 ⟨rfl, o3, o4, o5, rfl⟩) | (go_at_call 184; refine (turned_any _ _ _ (by omega) (by omega) (by omega) (by omega)).mono ?_; rintro e w2 ⟨rfl, rfl⟩))
  all_goals
    go_wp2
    refine bodyPost_ret (v := .agg #[.int .i64 0, .int .i64 1]) (by simp [results, Tryz.results182, go_sem, World.cell?_alloc_past]) rfl ⟨rfl, ?_⟩
    with_reducible repeat (first | refine bl_alloc ?_ | refine bl_drew ?_ | exact bl_refl _)

set_option maxHeartbeats 1600000 in
theorem outward_3 (w : World) (hs : Steps w) :
    Calls Tryz.prog 182 #[.int .i64 3] w fun r w' => r = .returned (.agg #[.int .i64 (-1), .int .i64 0]) ∧ Below w.heap.size w w' := by
  obtain ⟨s0, s1, s2, s3, s4, s5, s6, s7⟩ := hs
  have hz : 0 < w.heap.size := lt_of_cell s0
  have hz' : ¬ w.heap.size = 0 := by omega
  go_enter Tryz.func182, Tryz.ntmps182
  go_wp2
  go_region_held3 (fun w' => w'.cell? ⟨0, 6, none⟩ = some (.int .i64 (-1)) ∧ w'.cell? ⟨0, 7, none⟩ = some (.int .i64 1) ∧ w'.cell? ⟨0, 0, none⟩ = some (.int .i64 (-1)) ∧ w'.cell? ⟨0, 1, none⟩ = some (.int .i64 (-1)))
    ((refine ⟨?_, ?_, ?_, ?_⟩ <;> (first | (with_reducible (repeat (first | assumption | refine al_old ?_ | refine dr_old ?_)); done) | (simp [go_sem, World.cell?_alloc_past, *]; done))))
    (first | (go_at_call 183; refine (plus_any _ _ _ _ _ (by omega) (by omega) (by omega) (by omega) (by omega) (by omega) (by omega) (by omega)).mono ?_; rintro e w2 ⟨rfl, o3, o4, o5, rfl⟩) | (go_at_call 184; refine (turned_any _ _ _ (by omega) (by omega) (by omega) (by omega)).mono ?_; rintro e w2 ⟨rfl, rfl⟩))
  all_goals
    go_wp2
    refine bodyPost_ret (v := .agg #[.int .i64 (-1), .int .i64 0]) (by simp [results, Tryz.results182, go_sem, World.cell?_alloc_past]) rfl ⟨rfl, ?_⟩
    with_reducible repeat (first | refine bl_alloc ?_ | refine bl_drew ?_ | exact bl_refl _)

theorem outward_any (k : Int) (w : World) (h0 : 0 ≤ k) (h3 : k ≤ 3) (hs : Steps w) :
    Calls Tryz.prog 182 #[.int .i64 k] w fun r w' => r = .returned (.agg #[.int .i64 (outX k), .int .i64 (outY k)]) ∧ Below w.heap.size w w' := by
  have hk : k = 0 ∨ k = 1 ∨ k = 2 ∨ k = 3 := by omega
  rcases hk with rfl | rfl | rfl | rfl
  · exact outward_0 w hs
  · exact outward_1 w hs
  · exact outward_2 w hs
  · exact outward_3 w hs

set_option maxHeartbeats 1600000 in
theorem kindToward_0 (w : World) (hs : Steps w) :
    Calls Tryz.prog 180 #[.agg #[.int .i64 0, .int .i64 (-1)]] w fun r w' => r = .returned (.int .i64 0) ∧ Below w.heap.size w w' := by
  have hs0 : Steps (w.alloc (.cells #[.int .i64 0, .int .i64 (-1)] 40)) := hs.kept (bl_alloc (bl_refl _))
  have p0 : Pt (w.alloc (.cells #[.int .i64 0, .int .i64 (-1)] 40)) w.heap.size 0 (-1) := by simp [Pt, go_sem]
  obtain ⟨x0, y0⟩ := p0
  clear hs
  go_enter Tryz.func180, Tryz.ntmps180
  go_wp2
  refine wp_loop_rounds 5 ?_
  rw [rounds_succ]
  go_wp2
  go_region_held3 (fun w' => w'.cell? ⟨w.heap.size, 0, none⟩ = some (.int .i64 0) ∧ w'.cell? ⟨w.heap.size, 1, none⟩ = some (.int .i64 (-1)) ∧ Steps w')
    ((go_split_ands; refine ⟨?_, ?_, ?_⟩ <;> (first | assumption | (refine dr_old ?_; assumption) | (exact cl_kept (by assumption) (by assumption)) | (exact Steps.kept (by assumption) (by assumption)) | (exact Steps.kept (w := _) (by assumption) (bl_drew (bl_refl _))))))
    (first | (go_at_call 182; refine (outward_0 _ (by go_split_ands; first | assumption | exact Steps.kept (by assumption) (bl_drew (bl_refl _)))).mono ?_; rintro e w2 ⟨rfl, hb2⟩))
  go_wp2
  go_ret
  exact ⟨rfl, bl_via (bl_drew (bl_alloc (bl_refl _))) hb2⟩

set_option maxHeartbeats 1600000 in
theorem kindToward_1 (w : World) (hs : Steps w) :
    Calls Tryz.prog 180 #[.agg #[.int .i64 1, .int .i64 0]] w fun r w' => r = .returned (.int .i64 1) ∧ Below w.heap.size w w' := by
  have hs0 : Steps (w.alloc (.cells #[.int .i64 1, .int .i64 0] 40)) := hs.kept (bl_alloc (bl_refl _))
  have p0 : Pt (w.alloc (.cells #[.int .i64 1, .int .i64 0] 40)) w.heap.size 1 0 := by simp [Pt, go_sem]
  obtain ⟨x0, y0⟩ := p0
  clear hs
  go_enter Tryz.func180, Tryz.ntmps180
  go_wp2
  refine wp_loop_rounds 5 ?_
  rw [rounds_succ]
  go_wp2
  go_region_held3 (fun w' => w'.cell? ⟨w.heap.size, 0, none⟩ = some (.int .i64 1) ∧ w'.cell? ⟨w.heap.size, 1, none⟩ = some (.int .i64 0) ∧ Steps w')
    ((go_split_ands; refine ⟨?_, ?_, ?_⟩ <;> (first | assumption | (refine dr_old ?_; assumption) | (exact cl_kept (by assumption) (by assumption)) | (exact Steps.kept (by assumption) (by assumption)) | (exact Steps.kept (w := _) (by assumption) (bl_drew (bl_refl _))))))
    (first | (go_at_call 182; refine (outward_0 _ (by go_split_ands; first | assumption | exact Steps.kept (by assumption) (bl_drew (bl_refl _)))).mono ?_; rintro e w2 ⟨rfl, hb2⟩))
  go_wp2
  rw [rounds_succ]
  go_wp2
  go_region_held3 (fun w' => w'.cell? ⟨w.heap.size, 0, none⟩ = some (.int .i64 1) ∧ w'.cell? ⟨w.heap.size, 1, none⟩ = some (.int .i64 0) ∧ Steps w')
    ((go_split_ands; refine ⟨?_, ?_, ?_⟩ <;> (first | assumption | (refine dr_old ?_; assumption) | (exact cl_kept (by assumption) (by assumption)) | (exact Steps.kept (by assumption) (by assumption)) | (exact Steps.kept (w := _) (by assumption) (bl_drew (bl_refl _))))))
    (first | (go_at_call 182; refine (outward_1 _ (by go_split_ands; first | assumption | exact Steps.kept (by assumption) (bl_drew (bl_refl _)))).mono ?_; rintro e w3 ⟨rfl, hb3⟩))
  go_wp2
  go_ret
  exact ⟨rfl, bl_via (bl_drew (bl_via (bl_drew (bl_alloc (bl_refl _))) hb2)) hb3⟩

set_option maxHeartbeats 1600000 in
theorem kindToward_2 (w : World) (hs : Steps w) :
    Calls Tryz.prog 180 #[.agg #[.int .i64 0, .int .i64 1]] w fun r w' => r = .returned (.int .i64 2) ∧ Below w.heap.size w w' := by
  have hs0 : Steps (w.alloc (.cells #[.int .i64 0, .int .i64 1] 40)) := hs.kept (bl_alloc (bl_refl _))
  have p0 : Pt (w.alloc (.cells #[.int .i64 0, .int .i64 1] 40)) w.heap.size 0 1 := by simp [Pt, go_sem]
  obtain ⟨x0, y0⟩ := p0
  clear hs
  go_enter Tryz.func180, Tryz.ntmps180
  go_wp2
  refine wp_loop_rounds 5 ?_
  rw [rounds_succ]
  go_wp2
  go_region_held3 (fun w' => w'.cell? ⟨w.heap.size, 0, none⟩ = some (.int .i64 0) ∧ w'.cell? ⟨w.heap.size, 1, none⟩ = some (.int .i64 1) ∧ Steps w')
    ((go_split_ands; refine ⟨?_, ?_, ?_⟩ <;> (first | assumption | (refine dr_old ?_; assumption) | (exact cl_kept (by assumption) (by assumption)) | (exact Steps.kept (by assumption) (by assumption)) | (exact Steps.kept (w := _) (by assumption) (bl_drew (bl_refl _))))))
    (first | (go_at_call 182; refine (outward_0 _ (by go_split_ands; first | assumption | exact Steps.kept (by assumption) (bl_drew (bl_refl _)))).mono ?_; rintro e w2 ⟨rfl, hb2⟩))
  go_wp2
  rw [rounds_succ]
  go_wp2
  go_region_held3 (fun w' => w'.cell? ⟨w.heap.size, 0, none⟩ = some (.int .i64 0) ∧ w'.cell? ⟨w.heap.size, 1, none⟩ = some (.int .i64 1) ∧ Steps w')
    ((go_split_ands; refine ⟨?_, ?_, ?_⟩ <;> (first | assumption | (refine dr_old ?_; assumption) | (exact cl_kept (by assumption) (by assumption)) | (exact Steps.kept (by assumption) (by assumption)) | (exact Steps.kept (w := _) (by assumption) (bl_drew (bl_refl _))))))
    (first | (go_at_call 182; refine (outward_1 _ (by go_split_ands; first | assumption | exact Steps.kept (by assumption) (bl_drew (bl_refl _)))).mono ?_; rintro e w3 ⟨rfl, hb3⟩))
  go_wp2
  rw [rounds_succ]
  go_wp2
  go_region_held3 (fun w' => w'.cell? ⟨w.heap.size, 0, none⟩ = some (.int .i64 0) ∧ w'.cell? ⟨w.heap.size, 1, none⟩ = some (.int .i64 1) ∧ Steps w')
    ((go_split_ands; refine ⟨?_, ?_, ?_⟩ <;> (first | assumption | (refine dr_old ?_; assumption) | (exact cl_kept (by assumption) (by assumption)) | (exact Steps.kept (by assumption) (by assumption)) | (exact Steps.kept (w := _) (by assumption) (bl_drew (bl_refl _))))))
    (first | (go_at_call 182; refine (outward_2 _ (by go_split_ands; first | assumption | exact Steps.kept (by assumption) (bl_drew (bl_refl _)))).mono ?_; rintro e w4 ⟨rfl, hb4⟩))
  go_wp2
  go_ret
  exact ⟨rfl, bl_via (bl_drew (bl_via (bl_drew (bl_via (bl_drew (bl_alloc (bl_refl _))) hb2)) hb3)) hb4⟩

set_option maxHeartbeats 1600000 in
theorem kindToward_3 (w : World) (hs : Steps w) :
    Calls Tryz.prog 180 #[.agg #[.int .i64 (-1), .int .i64 0]] w fun r w' => r = .returned (.int .i64 3) ∧ Below w.heap.size w w' := by
  have hs0 : Steps (w.alloc (.cells #[.int .i64 (-1), .int .i64 0] 40)) := hs.kept (bl_alloc (bl_refl _))
  have p0 : Pt (w.alloc (.cells #[.int .i64 (-1), .int .i64 0] 40)) w.heap.size (-1) 0 := by simp [Pt, go_sem]
  obtain ⟨x0, y0⟩ := p0
  clear hs
  go_enter Tryz.func180, Tryz.ntmps180
  go_wp2
  refine wp_loop_rounds 5 ?_
  rw [rounds_succ]
  go_wp2
  go_region_held3 (fun w' => w'.cell? ⟨w.heap.size, 0, none⟩ = some (.int .i64 (-1)) ∧ w'.cell? ⟨w.heap.size, 1, none⟩ = some (.int .i64 0) ∧ Steps w')
    ((go_split_ands; refine ⟨?_, ?_, ?_⟩ <;> (first | assumption | (refine dr_old ?_; assumption) | (exact cl_kept (by assumption) (by assumption)) | (exact Steps.kept (by assumption) (by assumption)) | (exact Steps.kept (w := _) (by assumption) (bl_drew (bl_refl _))))))
    (first | (go_at_call 182; refine (outward_0 _ (by go_split_ands; first | assumption | exact Steps.kept (by assumption) (bl_drew (bl_refl _)))).mono ?_; rintro e w2 ⟨rfl, hb2⟩))
  go_wp2
  rw [rounds_succ]
  go_wp2
  go_region_held3 (fun w' => w'.cell? ⟨w.heap.size, 0, none⟩ = some (.int .i64 (-1)) ∧ w'.cell? ⟨w.heap.size, 1, none⟩ = some (.int .i64 0) ∧ Steps w')
    ((go_split_ands; refine ⟨?_, ?_, ?_⟩ <;> (first | assumption | (refine dr_old ?_; assumption) | (exact cl_kept (by assumption) (by assumption)) | (exact Steps.kept (by assumption) (by assumption)) | (exact Steps.kept (w := _) (by assumption) (bl_drew (bl_refl _))))))
    (first | (go_at_call 182; refine (outward_1 _ (by go_split_ands; first | assumption | exact Steps.kept (by assumption) (bl_drew (bl_refl _)))).mono ?_; rintro e w3 ⟨rfl, hb3⟩))
  go_wp2
  rw [rounds_succ]
  go_wp2
  go_region_held3 (fun w' => w'.cell? ⟨w.heap.size, 0, none⟩ = some (.int .i64 (-1)) ∧ w'.cell? ⟨w.heap.size, 1, none⟩ = some (.int .i64 0) ∧ Steps w')
    ((go_split_ands; refine ⟨?_, ?_, ?_⟩ <;> (first | assumption | (refine dr_old ?_; assumption) | (exact cl_kept (by assumption) (by assumption)) | (exact Steps.kept (by assumption) (by assumption)) | (exact Steps.kept (w := _) (by assumption) (bl_drew (bl_refl _))))))
    (first | (go_at_call 182; refine (outward_2 _ (by go_split_ands; first | assumption | exact Steps.kept (by assumption) (bl_drew (bl_refl _)))).mono ?_; rintro e w4 ⟨rfl, hb4⟩))
  go_wp2
  rw [rounds_succ]
  go_wp2
  go_region_held3 (fun w' => w'.cell? ⟨w.heap.size, 0, none⟩ = some (.int .i64 (-1)) ∧ w'.cell? ⟨w.heap.size, 1, none⟩ = some (.int .i64 0) ∧ Steps w')
    ((go_split_ands; refine ⟨?_, ?_, ?_⟩ <;> (first | assumption | (refine dr_old ?_; assumption) | (exact cl_kept (by assumption) (by assumption)) | (exact Steps.kept (by assumption) (by assumption)) | (exact Steps.kept (w := _) (by assumption) (bl_drew (bl_refl _))))))
    (first | (go_at_call 182; refine (outward_3 _ (by go_split_ands; first | assumption | exact Steps.kept (by assumption) (bl_drew (bl_refl _)))).mono ?_; rintro e w5 ⟨rfl, hb5⟩))
  go_wp2
  go_ret
  exact ⟨rfl, bl_via (bl_drew (bl_via (bl_drew (bl_via (bl_drew (bl_via (bl_drew (bl_alloc (bl_refl _))) hb2)) hb3)) hb4)) hb5⟩

theorem kindToward_any (K : Int) (w : World) (h0 : 0 ≤ K) (h3 : K ≤ 3) (hs : Steps w) :
    Calls Tryz.prog 180 #[.agg #[.int .i64 (outX K), .int .i64 (outY K)]] w fun r w' => r = .returned (.int .i64 K) ∧ Below w.heap.size w w' := by
  have hk : K = 0 ∨ K = 1 ∨ K = 2 ∨ K = 3 := by omega
  rcases hk with rfl | rfl | rfl | rfl
  · exact kindToward_0 w hs
  · exact kindToward_1 w hs
  · exact kindToward_2 w hs
  · exact kindToward_3 w hs

set_option maxHeartbeats 3200000 in
theorem move_any (a b c d e f x y k X Y K : Int) (w : World) (hs : Sm a b c d) (he : (-1000000 ≤ e ∧ e ≤ 1000000) ∧ (-1000000 ≤ f ∧ f ≤ 1000000)) (ht : triB x y k = true) (hst : Steps w)
    (hX : dot a b (2 * x + 1) (2 * y + 1) + e = 2 * X + 1) (hY : dot c d (2 * x + 1) (2 * y + 1) + f = 2 * Y + 1) (hK : 0 ≤ K ∧ K ≤ 3)
    (hKx : dot a b (outX k) (outY k) = outX K) (hKy : dot c d (outX k) (outY k) = outY K) :
    Calls Tryz.prog 90 #[.agg #[.int .i64 a, .int .i64 b, .int .i64 c, .int .i64 d, .int .i64 e, .int .i64 f], .agg #[.int .i64 x, .int .i64 y, .int .i64 k]] w fun r w' =>
      r = .returned (.agg #[.int .i64 X, .int .i64 Y, .int .i64 K]) ∧ Below w.heap.size w w' := by
  have hb : 0 ≤ k ∧ k ≤ 3 ∧ -1000000 ≤ x ∧ x ≤ 1000000 ∧ -1000000 ≤ y ∧ y ≤ 1000000 := by simpa [triB] using ht
  obtain ⟨k0, k3, x1, x2, y1, y2⟩ := hb
  have d1 := dot_bd (M := 2000001) hs.1.1 hs.1.2 hs.2.1.1 hs.2.1.2 (show -2000001 ≤ 2 * x + 1 by omega) (by omega) (show -2000001 ≤ 2 * y + 1 by omega) (by omega)
  have d2 := dot_bd (M := 2000001) hs.2.2.1.1 hs.2.2.1.2 hs.2.2.2.1 hs.2.2.2.2 (show -2000001 ≤ 2 * x + 1 by omega) (by omega) (show -2000001 ≤ 2 * y + 1 by omega) (by omega)
  have X1 : -3000000 ≤ X ∧ X ≤ 3000000 := by omega
  have Y1 : -3000000 ≤ Y ∧ Y ≤ 3000000 := by omega
  have HS : Hid (Sm a b c d) := hs
  have HE : Hid ((-1000000 ≤ e ∧ e ≤ 1000000) ∧ (-1000000 ≤ f ∧ f ≤ 1000000)) := he
  have HX : Hid (dot a b (2 * x + 1) (2 * y + 1) + e = 2 * X + 1) := hX
  have HY : Hid (dot c d (2 * x + 1) (2 * y + 1) + f = 2 * Y + 1) := hY
  have HKX : Hid (dot a b (outX k) (outY k) = outX K) := hKx
  have HKY : Hid (dot c d (outX k) (outY k) = outY K) := hKy
  have HT : Hid (Steps w) := hst
  have HTR : Hid (triB x y k = true) := ht
  have hx := half X
  have hy := half Y
  clear hs he hX hY hKx hKy hst ht d1 d2
  go_enter Tryz.func90, Tryz.ntmps90
  go_wp2
  go_cut [5] (fun s5 wx => ∃ g5 : Nat, s5 = .pointer (some ⟨g5, 0, none⟩) ∧ w.heap.size + 1 + 1 < g5 ∧ Pt wx g5 (2 * X + 1) (2 * Y + 1) ∧ Below w.heap.size w wx ∧ Mp wx w.heap.size a b c d e f ∧ Tr wx (w.heap.size + 1) x y k ∧ Tr wx (w.heap.size + 1 + 1) 0 0 0 ∧ Fr wx (w.heap.size + 1 + 1))
  case first =>
    go_region_held3 (fun w' => (w'.cell? ⟨w.heap.size, 0, none⟩ = some (.int .i64 a) ∧ w'.cell? ⟨w.heap.size, 1, none⟩ = some (.int .i64 b) ∧ w'.cell? ⟨w.heap.size, 2, none⟩ = some (.int .i64 c) ∧ w'.cell? ⟨w.heap.size, 3, none⟩ = some (.int .i64 d) ∧ w'.cell? ⟨w.heap.size, 4, none⟩ = some (.int .i64 e) ∧ w'.cell? ⟨w.heap.size, 5, none⟩ = some (.int .i64 f)) ∧ w'.cell? ⟨w.heap.size + 1, 0, none⟩ = some (.int .i64 x) ∧ w'.cell? ⟨w.heap.size + 1, 1, none⟩ = some (.int .i64 y) ∧ w'.cell? ⟨w.heap.size + 1, 2, none⟩ = some (.int .i64 k))
      ((refine ⟨⟨?_, ?_, ?_, ?_, ?_, ?_⟩, ?_, ?_, ?_⟩ <;> (first | (with_reducible (repeat (first | assumption | refine al_old ?_ | refine dr_old ?_)); done) | (simp [go_sem]; done))))
      (first | (go_at_call 179; refine (middle_any _ _ _ _ HTR.out).mono ?_; rintro e w2 ⟨rfl, o3, o4, rfl⟩) | (go_at_call 178; refine (image_any _ _ _ _ _ _ _ _ _ HS.out HE.out.1 HE.out.2 (by omega) (by omega) (by omega) (by omega)).mono ?_; rintro e w2 ⟨rfl, o5, o6, o7, o8, o9, o10, o11, o12, o13, rfl⟩))
    all_goals
      go_wp2
      go_meet
      case rel =>
        refine ⟨_, rfl, by omega, ?_, ?_, ?_, ?_, ?_, ?_⟩
        · simp [Pt, go_sem, World.cell?_alloc_past, HX.out, HY.out]
        · with_reducible repeat (first | refine bl_alloc ?_ | refine bl_drew ?_ | exact bl_refl _)
        · simp [Mp, go_sem, World.cell?_alloc_past]
        · simp [Tr, go_sem, World.cell?_alloc_past]
        · simp [Tr, go_sem, World.cell?_alloc_past]
        · simp [Fr, go_sem]
  case rest =>
    obtain ⟨g5, rfl, hg5, p5, hB, hM, hN, hR, hF⟩ := hcut
    have hz : w.heap.size ≤ wc.heap.size := hB.size
    have hsc : Steps wc := HT.out.kept hB
    obtain ⟨m0, m1, m2, m3, m4, m5⟩ := id hM
    obtain ⟨n0, n1, n2⟩ := id hN
    obtain ⟨r0, r1, r2⟩ := id hR
    obtain ⟨f0, f1, f2, _, _, _⟩ := id hF
    obtain ⟨q0, q1⟩ := id p5
    have HB : Hid (Below w.heap.size w wc) := hB
    clear hB hM hN hR hF p5
    have ox := outX_bd k
    have oy := outY_bd k
    have wX : IntKind.i64.wrap (2 * X) = 2 * X := wrap_of (by omega) (by omega)
    have wY : IntKind.i64.wrap (2 * Y) = 2 * Y := wrap_of (by omega) (by omega)
    have wX' : IntKind.i64.wrap X = X := wrap_of (by omega) (by omega)
    have wY' : IntKind.i64.wrap Y = Y := wrap_of (by omega) (by omega)
    go_wp2
    go_region_held3 (fun w' => w'.cell? ⟨w.heap.size, 0, none⟩ = some (.int .i64 a) ∧ w'.cell? ⟨w.heap.size, 1, none⟩ = some (.int .i64 b) ∧ w'.cell? ⟨w.heap.size, 2, none⟩ = some (.int .i64 c) ∧ w'.cell? ⟨w.heap.size, 3, none⟩ = some (.int .i64 d) ∧ w'.cell? ⟨w.heap.size, 4, none⟩ = some (.int .i64 e) ∧ w'.cell? ⟨w.heap.size, 5, none⟩ = some (.int .i64 f) ∧ w'.cell? ⟨w.heap.size + 1, 2, none⟩ = some (.int .i64 k) ∧ w'.cell? ⟨g5, 0, none⟩ = some (.int .i64 (2 * X + 1)) ∧ w'.cell? ⟨g5, 1, none⟩ = some (.int .i64 (2 * Y + 1)) ∧ Steps w')
      ((go_split_ands; refine ⟨?_, ?_, ?_, ?_, ?_, ?_, ?_, ?_, ?_, ?_⟩ <;> (first | (with_reducible assumption) | (with_reducible exact cl_kept (by assumption) (by assumption)) | (with_reducible exact Steps.kept (by assumption) (by assumption)) | (with_reducible exact dr_old (by assumption)) | (with_reducible exact Steps.kept (by assumption) (bl_drew (bl_refl _))) | (refine st_old3 (by with_reducible assumption) (by dsimp only; omega)) | (refine Steps.set3 (by with_reducible assumption) (by dsimp only; omega)))))
      (first | (go_at_call 182; refine (outward_any _ _ k0 k3 (by go_split_ands; with_reducible first | assumption | exact Steps.kept (by assumption) (bl_drew (bl_refl _)) | exact Steps.kept (by assumption) (by assumption))).mono ?_; rintro e w2 ⟨rfl, hb2⟩) | (go_at_call 181; refine (turn_to _ _ _ _ _ _ _ _ _ _ _ HS.out (by omega) (by omega) (by omega) (by omega) HKX.out HKY.out).mono ?_; rintro e w3 ⟨rfl, hb3⟩) | (go_at_call 180; refine (kindToward_any K _ hK.1 hK.2 (by go_split_ands; with_reducible first | assumption | exact Steps.kept (by assumption) (bl_drew (bl_refl _)) | exact Steps.kept (by assumption) (by assumption))).mono ?_; rintro e w4 ⟨rfl, hb4⟩; have r0' := cl_kept hb4 (cl_kept hb3 (cl_kept hb2 (dr_old r0))); have r1' := cl_kept hb4 (cl_kept hb3 (cl_kept hb2 (dr_old r1))); have r2' := cl_kept hb4 (cl_kept hb3 (cl_kept hb2 (dr_old r2))); have f0' := fz_kept hb4 (cl_kept hb3 (cl_kept hb2 (dr_old r0))) (fz_kept hb3 (cl_kept hb2 (dr_old r0)) (fz_kept hb2 (dr_old r0) (dr_fz f0))); have f1' := fz_kept hb4 (cl_kept hb3 (cl_kept hb2 (dr_old r1))) (fz_kept hb3 (cl_kept hb2 (dr_old r1)) (fz_kept hb2 (dr_old r1) (dr_fz f1))); have f2' := fz_kept hb4 (cl_kept hb3 (cl_kept hb2 (dr_old r2))) (fz_kept hb3 (cl_kept hb2 (dr_old r2)) (fz_kept hb2 (dr_old r2) (dr_fz f2)))))
    go_wp2
    refine bodyPost_ret (v := .agg #[.int .i64 X, .int .i64 Y, .int .i64 K]) ?_ rfl ⟨rfl, ?_⟩
    · simp [results, Tryz.results90, go_sem, *]
    · exact bl_set (bl_set (bl_set (bl_via (bl_via (bl_via (bl_drew HB.out) hb2) hb3) hb4) (by simp; omega)) (by simp; omega)) (by simp; omega)
theorem answerTri_no (f : Value) (w : World) :
    Calls Tryz.prog 86 #[.bool false, f] w fun r w' => r = .returned (.tuple #[.agg #[.int .i64 0, .int .i64 0, .int .i64 0], .int .i64 3]) ∧ ∃ o1 o2, w' = (w.alloc o1).alloc o2 := by
  go_enter Tryz.func86, Tryz.ntmps86
  go_wp2
  exact bodyPost_ret (v := .tuple #[.agg #[.int .i64 0, .int .i64 0, .int .i64 0], .int .i64 3]) (by simp [results, Tryz.results86, go_sem]) rfl ⟨rfl, _, _, rfl⟩

set_option maxHeartbeats 800000 in
theorem answerTri_59_0 (x y k : Int) (pa pt : Nat) (w : World) (hcall : ∀ W : World, Below w.heap.size w W → Calls Tryz.prog 89 #[.pointer (some ⟨pa, 0, none⟩), .pointer (some ⟨pt, 0, none⟩)] W fun r w' => r = .returned (.tuple #[.agg #[.int .i64 x, .int .i64 y, .int .i64 k], .int .i64 0]) ∧ Below W.heap.size W w') :
    Calls Tryz.prog 86 #[.bool true, .func (.func 89) #[] #[.pointer (some ⟨pa, 0, none⟩), .pointer (some ⟨pt, 0, none⟩)]] w fun r w' => r = .returned (.tuple #[.agg #[.int .i64 x, .int .i64 y, .int .i64 k], .int .i64 0]) ∧ Below w.heap.size w w' := by
  have HC : Hid (∀ W : World, Below w.heap.size w W → Calls Tryz.prog 89 #[.pointer (some ⟨pa, 0, none⟩), .pointer (some ⟨pt, 0, none⟩)] W fun r w' => r = .returned (.tuple #[.agg #[.int .i64 x, .int .i64 y, .int .i64 k], .int .i64 0]) ∧ Below W.heap.size W w') := hcall
  clear hcall
  go_enter Tryz.func86, Tryz.ntmps86
  go_wp2_with (go_at_call 89; refine (HC.out _ (bl_alloc (bl_alloc (bl_refl _)))).mono ?_; rintro r w2 ⟨rfl, hb⟩; have r0 : w2.cell? ⟨w.heap.size, 0, none⟩ = some (.int .i64 0) := cl_kept hb (by first | (simp [go_sem]; done) | (simp [go_sem, World.cell?_alloc_past]; done)); have f0' : w2.frozen? ⟨w.heap.size, 0, none⟩ = false := (hb.frozen (p := ⟨w.heap.size, 0, none⟩) (by simp <;> omega)).trans (by simp [go_sem]); have r1 : w2.cell? ⟨w.heap.size, 1, none⟩ = some (.int .i64 0) := cl_kept hb (by first | (simp [go_sem]; done) | (simp [go_sem, World.cell?_alloc_past]; done)); have f1' : w2.frozen? ⟨w.heap.size, 1, none⟩ = false := (hb.frozen (p := ⟨w.heap.size, 1, none⟩) (by simp <;> omega)).trans (by simp [go_sem]); have r2 : w2.cell? ⟨w.heap.size, 2, none⟩ = some (.int .i64 0) := cl_kept hb (by first | (simp [go_sem]; done) | (simp [go_sem, World.cell?_alloc_past]; done)); have f2' : w2.frozen? ⟨w.heap.size, 2, none⟩ = false := (hb.frozen (p := ⟨w.heap.size, 2, none⟩) (by simp <;> omega)).trans (by simp [go_sem]); have zz0 : w.heap.size < w2.heap.size := World.block_lt_of_cell? (w := w2) (a := ⟨w.heap.size, 0, none⟩) r0; have zz1 : w.heap.size < w2.heap.size + 1 := (by omega); have zz2 : w.heap.size < w2.heap.size + 1 + 1 := (by omega); have zz3 : w.heap.size < w2.heap.size + 1 + 1 + 1 := (by omega); have zz4 : w.heap.size < w2.heap.size + 1 + 1 + 1 + 1 := (by omega); have zz5 : w.heap.size < w2.heap.size + 1 + 1 + 1 + 1 + 1 := (by omega); have HB : Hid (Below w.heap.size w w2) := bl_via (bl_alloc (bl_alloc (bl_refl _))) hb; clear hb)
  refine bodyPost_ret (v := .tuple #[.agg #[.int .i64 x, .int .i64 y, .int .i64 k], .int .i64 0]) ?_ rfl ⟨rfl, ?_⟩
  · first | (simp [results, Tryz.results86, go_sem, *]; done) | (simp [results, Tryz.results86, go_sem, World.cell?_alloc_past, *]; done)
  · with_reducible repeat' (first | exact HB.out | refine bl_set ?_ ?_ | refine bl_alloc ?_ | refine bl_drew ?_)
    all_goals (first | (simp; done) | (simp; omega))

set_option maxHeartbeats 800000 in
theorem answerTri_59_2 (pa pt : Nat) (w : World) (hcall : ∀ W : World, Below w.heap.size w W → Calls Tryz.prog 89 #[.pointer (some ⟨pa, 0, none⟩), .pointer (some ⟨pt, 0, none⟩)] W fun r w' => r = .returned (.tuple #[.agg #[.int .i64 0, .int .i64 0, .int .i64 0], .int .i64 2]) ∧ Below W.heap.size W w') :
    Calls Tryz.prog 86 #[.bool true, .func (.func 89) #[] #[.pointer (some ⟨pa, 0, none⟩), .pointer (some ⟨pt, 0, none⟩)]] w fun r w' => r = .returned (.tuple #[.agg #[.int .i64 0, .int .i64 0, .int .i64 0], .int .i64 2]) ∧ Below w.heap.size w w' := by
  have HC : Hid (∀ W : World, Below w.heap.size w W → Calls Tryz.prog 89 #[.pointer (some ⟨pa, 0, none⟩), .pointer (some ⟨pt, 0, none⟩)] W fun r w' => r = .returned (.tuple #[.agg #[.int .i64 0, .int .i64 0, .int .i64 0], .int .i64 2]) ∧ Below W.heap.size W w') := hcall
  clear hcall
  go_enter Tryz.func86, Tryz.ntmps86
  go_wp2_with (go_at_call 89; refine (HC.out _ (bl_alloc (bl_alloc (bl_refl _)))).mono ?_; rintro r w2 ⟨rfl, hb⟩; have r0 : w2.cell? ⟨w.heap.size, 0, none⟩ = some (.int .i64 0) := cl_kept hb (by first | (simp [go_sem]; done) | (simp [go_sem, World.cell?_alloc_past]; done)); have f0' : w2.frozen? ⟨w.heap.size, 0, none⟩ = false := (hb.frozen (p := ⟨w.heap.size, 0, none⟩) (by simp <;> omega)).trans (by simp [go_sem]); have r1 : w2.cell? ⟨w.heap.size, 1, none⟩ = some (.int .i64 0) := cl_kept hb (by first | (simp [go_sem]; done) | (simp [go_sem, World.cell?_alloc_past]; done)); have f1' : w2.frozen? ⟨w.heap.size, 1, none⟩ = false := (hb.frozen (p := ⟨w.heap.size, 1, none⟩) (by simp <;> omega)).trans (by simp [go_sem]); have r2 : w2.cell? ⟨w.heap.size, 2, none⟩ = some (.int .i64 0) := cl_kept hb (by first | (simp [go_sem]; done) | (simp [go_sem, World.cell?_alloc_past]; done)); have f2' : w2.frozen? ⟨w.heap.size, 2, none⟩ = false := (hb.frozen (p := ⟨w.heap.size, 2, none⟩) (by simp <;> omega)).trans (by simp [go_sem]); have zz0 : w.heap.size < w2.heap.size := World.block_lt_of_cell? (w := w2) (a := ⟨w.heap.size, 0, none⟩) r0; have zz1 : w.heap.size < w2.heap.size + 1 := (by omega); have zz2 : w.heap.size < w2.heap.size + 1 + 1 := (by omega); have zz3 : w.heap.size < w2.heap.size + 1 + 1 + 1 := (by omega); have zz4 : w.heap.size < w2.heap.size + 1 + 1 + 1 + 1 := (by omega); have zz5 : w.heap.size < w2.heap.size + 1 + 1 + 1 + 1 + 1 := (by omega); have k0 : w2.cell? ⟨w.heap.size + 1, 0, none⟩ = some (.int .i64 0) := cl_kept hb (by first | (simp [go_sem]; done) | (simp [go_sem, World.cell?_alloc_past]; done)); have h0' : w2.frozen? ⟨w.heap.size + 1, 0, none⟩ = false := (hb.frozen (p := ⟨w.heap.size + 1, 0, none⟩) (by simp <;> omega)).trans (by simp [go_sem]); have k1 : w2.cell? ⟨w.heap.size + 1, 1, none⟩ = some (.int .i64 0) := cl_kept hb (by first | (simp [go_sem]; done) | (simp [go_sem, World.cell?_alloc_past]; done)); have h1' : w2.frozen? ⟨w.heap.size + 1, 1, none⟩ = false := (hb.frozen (p := ⟨w.heap.size + 1, 1, none⟩) (by simp <;> omega)).trans (by simp [go_sem]); have k2 : w2.cell? ⟨w.heap.size + 1, 2, none⟩ = some (.int .i64 0) := cl_kept hb (by first | (simp [go_sem]; done) | (simp [go_sem, World.cell?_alloc_past]; done)); have h2' : w2.frozen? ⟨w.heap.size + 1, 2, none⟩ = false := (hb.frozen (p := ⟨w.heap.size + 1, 2, none⟩) (by simp <;> omega)).trans (by simp [go_sem]); have yy0 : w.heap.size + 1 < w2.heap.size := World.block_lt_of_cell? (w := w2) (a := ⟨w.heap.size + 1, 0, none⟩) k0; have yy1 : w.heap.size + 1 < w2.heap.size + 1 := (by omega); have yy2 : w.heap.size + 1 < w2.heap.size + 1 + 1 := (by omega); have yy3 : w.heap.size + 1 < w2.heap.size + 1 + 1 + 1 := (by omega); have yy4 : w.heap.size + 1 < w2.heap.size + 1 + 1 + 1 + 1 := (by omega); have yy5 : w.heap.size + 1 < w2.heap.size + 1 + 1 + 1 + 1 + 1 := (by omega); have HB : Hid (Below w.heap.size w w2) := bl_via (bl_alloc (bl_alloc (bl_refl _))) hb; clear hb)
  refine bodyPost_ret (v := .tuple #[.agg #[.int .i64 0, .int .i64 0, .int .i64 0], .int .i64 2]) ?_ rfl ⟨rfl, ?_⟩
  · first | (simp [results, Tryz.results86, go_sem, *]; done) | (simp [results, Tryz.results86, go_sem, World.cell?_alloc_past, *]; done)
  · with_reducible repeat' (first | exact HB.out | refine bl_set ?_ ?_ | refine bl_alloc ?_ | refine bl_drew ?_)
    all_goals (first | (simp; done) | (simp; omega))

set_option maxHeartbeats 800000 in
theorem move1_yes (a b c d e f x y k X Y K : Int) (pa pt : Nat) (w : World) (h1 : mapB a b c d e f = true) (h2 : triB x y k = true) (hX : dot a b (2 * x + 1) (2 * y + 1) + e = 2 * X + 1) (hY : dot c d (2 * x + 1) (2 * y + 1) + f = 2 * Y + 1) (hK : 0 ≤ K ∧ K ≤ 3) (hKx : dot a b (outX k) (outY k) = outX K) (hKy : dot c d (outX k) (outY k) = outY K) (hm : triB X Y K = true) (hs : Steps w) (ha : Mp w pa a b c d e f) (ht : Tr w pt x y k) :
    Calls Tryz.prog 89 #[.pointer (some ⟨pa, 0, none⟩), .pointer (some ⟨pt, 0, none⟩)] w fun r w' => r = .returned (.tuple #[.agg #[.int .i64 X, .int .i64 Y, .int .i64 K], .int .i64 0]) ∧ Below w.heap.size w w' := by
  obtain ⟨s1, e1, _, _⟩ := map_bd h1
  have za := ha.lt
  have zb := ht.lt
  obtain ⟨a0, a1, a2, a3, a4, a5⟩ := ha
  obtain ⟨b0, b1, b2⟩ := ht
  have C60 : Hid (∀ W : World, Steps W → Calls Tryz.prog 90 #[.agg #[.int .i64 a, .int .i64 b, .int .i64 c, .int .i64 d, .int .i64 e, .int .i64 f], .agg #[.int .i64 x, .int .i64 y, .int .i64 k]] W fun r w' => r = .returned (.agg #[.int .i64 X, .int .i64 Y, .int .i64 K]) ∧ Below W.heap.size W w') := fun W hW => move_any a b c d e f x y k X Y K W s1 e1 h2 hW hX hY hK hKx hKy
  have HS : Hid (Steps w) := hs
  clear s1 e1 h1 h2 hX hY hK hKx hKy hs
  go_enter Tryz.func89, Tryz.ntmps89
  go_wp2_with (first | (go_at_call 90; refine (C60.out _ (HS.out.kept (bl_alloc (bl_refl _)))).mono ?_; rintro r w2 ⟨rfl, hb⟩; have r0 : w2.cell? ⟨w.heap.size, 0, none⟩ = some (.int .i64 0) := cl_kept hb (by first | (simp [go_sem]; done) | (simp [go_sem, World.cell?_alloc_past]; done)); have f0' : w2.frozen? ⟨w.heap.size, 0, none⟩ = false := (hb.frozen (p := ⟨w.heap.size, 0, none⟩) (by simp <;> omega)).trans (by simp [go_sem]); have r1 : w2.cell? ⟨w.heap.size, 1, none⟩ = some (.int .i64 0) := cl_kept hb (by first | (simp [go_sem]; done) | (simp [go_sem, World.cell?_alloc_past]; done)); have f1' : w2.frozen? ⟨w.heap.size, 1, none⟩ = false := (hb.frozen (p := ⟨w.heap.size, 1, none⟩) (by simp <;> omega)).trans (by simp [go_sem]); have r2 : w2.cell? ⟨w.heap.size, 2, none⟩ = some (.int .i64 0) := cl_kept hb (by first | (simp [go_sem]; done) | (simp [go_sem, World.cell?_alloc_past]; done)); have f2' : w2.frozen? ⟨w.heap.size, 2, none⟩ = false := (hb.frozen (p := ⟨w.heap.size, 2, none⟩) (by simp <;> omega)).trans (by simp [go_sem]); have zz0 : w.heap.size < w2.heap.size := World.block_lt_of_cell? (w := w2) (a := ⟨w.heap.size, 0, none⟩) r0; have zz1 : w.heap.size < w2.heap.size + 1 := (by omega); have zz2 : w.heap.size < w2.heap.size + 1 + 1 := (by omega); have zz3 : w.heap.size < w2.heap.size + 1 + 1 + 1 := (by omega); have zz4 : w.heap.size < w2.heap.size + 1 + 1 + 1 + 1 := (by omega); have zz5 : w.heap.size < w2.heap.size + 1 + 1 + 1 + 1 + 1 := (by omega); have HB : Hid (Below w.heap.size w w2) := bl_via (bl_alloc (bl_refl _)) hb; clear hb) | (go_at_call 88; refine (mayTri_any _ _ _ _).mono ?_; rintro r w3 ⟨rfl, o1, rfl⟩))
  refine bodyPost_ret (v := .tuple #[.agg #[.int .i64 X, .int .i64 Y, .int .i64 K], .int .i64 0]) ?_ rfl ⟨rfl, ?_⟩
  · first | (simp [results, Tryz.results89, go_sem, *]; done) | (simp [results, Tryz.results89, go_sem, World.cell?_alloc_past, *]; done)
  · with_reducible repeat' (first | exact HB.out | refine bl_set ?_ ?_ | refine bl_alloc ?_ | refine bl_drew ?_)
    all_goals (first | (simp; done) | (simp; omega))

set_option maxHeartbeats 800000 in
theorem Move_yes (a b c d e f x y k X Y K : Int) (w : World) (h1 : mapB a b c d e f = true) (h2 : triB x y k = true) (hX : dot a b (2 * x + 1) (2 * y + 1) + e = 2 * X + 1) (hY : dot c d (2 * x + 1) (2 * y + 1) + f = 2 * Y + 1) (hK : 0 ≤ K ∧ K ≤ 3) (hKx : dot a b (outX k) (outY k) = outX K) (hKy : dot c d (outX k) (outY k) = outY K) (hm : triB X Y K = true) (hs : Steps w) :
    Calls Tryz.prog 34 #[.agg #[.int .i64 a, .int .i64 b, .int .i64 c, .int .i64 d, .int .i64 e, .int .i64 f], .agg #[.int .i64 x, .int .i64 y, .int .i64 k]] w fun r w' => r = .returned (.tuple #[.agg #[.int .i64 X, .int .i64 Y, .int .i64 K], .int .i64 0]) ∧ Below w.heap.size w w' := by
  have hmf := make_func
  have HC : Hid (∀ (pa pt : Nat) (W : World), Below w.heap.size w W → Mp W pa a b c d e f → Tr W pt x y k → Calls Tryz.prog 89 #[.pointer (some ⟨pa, 0, none⟩), .pointer (some ⟨pt, 0, none⟩)] W fun r w' => r = .returned (.tuple #[.agg #[.int .i64 X, .int .i64 Y, .int .i64 K], .int .i64 0]) ∧ Below W.heap.size W w') := fun pa pt W hW hp ht => move1_yes a b c d e f x y k X Y K pa pt W h1 h2 hX hY hK hKx hKy hm (hs.kept hW) hp ht
  clear hX hY hK hKx hKy hm hs
  go_enter Tryz.func34, Tryz.ntmps34
  go_wp2_with (first | (go_at_call 87; refine (mayMap_any _ _ _ _ _ _ _).mono ?_; rintro r w2 ⟨rfl, o1, rfl⟩) | (go_at_call 88; refine (mayTri_any _ _ _ _).mono ?_; rintro r w3 ⟨rfl, o2, rfl⟩) | (go_at_call 86; refine (answerTri_59_0 _ _ _ _ _ _ (fun W hW => HC.out _ _ W (bl_via (bl_alloc (bl_alloc (bl_alloc (bl_alloc (bl_alloc (bl_refl _)))))) hW) (Mp.kept (by simp [Mp, go_sem]) hW) (Tr.kept (by simp [Tr, go_sem]) hW))).mono ?_; rintro r w2 ⟨rfl, hb⟩; have r0 : w2.cell? ⟨w.heap.size + 1 + 1, 0, none⟩ = some (.int .i64 0) := cl_kept hb (by first | (simp [go_sem]; done) | (simp [go_sem, World.cell?_alloc_past]; done)); have f0' : w2.frozen? ⟨w.heap.size + 1 + 1, 0, none⟩ = false := (hb.frozen (p := ⟨w.heap.size + 1 + 1, 0, none⟩) (by simp <;> omega)).trans (by simp [go_sem]); have r1 : w2.cell? ⟨w.heap.size + 1 + 1, 1, none⟩ = some (.int .i64 0) := cl_kept hb (by first | (simp [go_sem]; done) | (simp [go_sem, World.cell?_alloc_past]; done)); have f1' : w2.frozen? ⟨w.heap.size + 1 + 1, 1, none⟩ = false := (hb.frozen (p := ⟨w.heap.size + 1 + 1, 1, none⟩) (by simp <;> omega)).trans (by simp [go_sem]); have r2 : w2.cell? ⟨w.heap.size + 1 + 1, 2, none⟩ = some (.int .i64 0) := cl_kept hb (by first | (simp [go_sem]; done) | (simp [go_sem, World.cell?_alloc_past]; done)); have f2' : w2.frozen? ⟨w.heap.size + 1 + 1, 2, none⟩ = false := (hb.frozen (p := ⟨w.heap.size + 1 + 1, 2, none⟩) (by simp <;> omega)).trans (by simp [go_sem]); have zz0 : w.heap.size + 1 + 1 < w2.heap.size := World.block_lt_of_cell? (w := w2) (a := ⟨w.heap.size + 1 + 1, 0, none⟩) r0; have zz1 : w.heap.size + 1 + 1 < w2.heap.size + 1 := (by omega); have zz2 : w.heap.size + 1 + 1 < w2.heap.size + 1 + 1 := (by omega); have zz3 : w.heap.size + 1 + 1 < w2.heap.size + 1 + 1 + 1 := (by omega); have zz4 : w.heap.size + 1 + 1 < w2.heap.size + 1 + 1 + 1 + 1 := (by omega); have zz5 : w.heap.size + 1 + 1 < w2.heap.size + 1 + 1 + 1 + 1 + 1 := (by omega); have HB : Hid (Below w.heap.size w w2) := bl_via (bl_alloc (bl_alloc (bl_alloc (bl_alloc (bl_alloc (bl_refl _)))))) hb; clear hb))
  refine bodyPost_ret (v := .tuple #[.agg #[.int .i64 X, .int .i64 Y, .int .i64 K], .int .i64 0]) ?_ rfl ⟨rfl, ?_⟩
  · first | (simp [results, Tryz.results34, go_sem, *]; done) | (simp [results, Tryz.results34, go_sem, World.cell?_alloc_past, *]; done)
  · with_reducible repeat' (first | exact HB.out | refine bl_set ?_ ?_ | refine bl_alloc ?_ | refine bl_drew ?_)
    all_goals (first | (simp; done) | (simp; omega))

set_option maxHeartbeats 800000 in
theorem move1_no (a b c d e f x y k X Y K : Int) (pa pt : Nat) (w : World) (h1 : mapB a b c d e f = true) (h2 : triB x y k = true) (hX : dot a b (2 * x + 1) (2 * y + 1) + e = 2 * X + 1) (hY : dot c d (2 * x + 1) (2 * y + 1) + f = 2 * Y + 1) (hK : 0 ≤ K ∧ K ≤ 3) (hKx : dot a b (outX k) (outY k) = outX K) (hKy : dot c d (outX k) (outY k) = outY K) (hm : triB X Y K = false) (hs : Steps w) (ha : Mp w pa a b c d e f) (ht : Tr w pt x y k) :
    Calls Tryz.prog 89 #[.pointer (some ⟨pa, 0, none⟩), .pointer (some ⟨pt, 0, none⟩)] w fun r w' => r = .returned (.tuple #[.agg #[.int .i64 0, .int .i64 0, .int .i64 0], .int .i64 2]) ∧ Below w.heap.size w w' := by
  obtain ⟨s1, e1, _, _⟩ := map_bd h1
  have za := ha.lt
  have zb := ht.lt
  obtain ⟨a0, a1, a2, a3, a4, a5⟩ := ha
  obtain ⟨b0, b1, b2⟩ := ht
  have C60 : Hid (∀ W : World, Steps W → Calls Tryz.prog 90 #[.agg #[.int .i64 a, .int .i64 b, .int .i64 c, .int .i64 d, .int .i64 e, .int .i64 f], .agg #[.int .i64 x, .int .i64 y, .int .i64 k]] W fun r w' => r = .returned (.agg #[.int .i64 X, .int .i64 Y, .int .i64 K]) ∧ Below W.heap.size W w') := fun W hW => move_any a b c d e f x y k X Y K W s1 e1 h2 hW hX hY hK hKx hKy
  have HS : Hid (Steps w) := hs
  clear s1 e1 h1 h2 hX hY hK hKx hKy hs
  go_enter Tryz.func89, Tryz.ntmps89
  go_wp2_with (first | (go_at_call 90; refine (C60.out _ (HS.out.kept (bl_alloc (bl_refl _)))).mono ?_; rintro r w2 ⟨rfl, hb⟩; have r0 : w2.cell? ⟨w.heap.size, 0, none⟩ = some (.int .i64 0) := cl_kept hb (by first | (simp [go_sem]; done) | (simp [go_sem, World.cell?_alloc_past]; done)); have f0' : w2.frozen? ⟨w.heap.size, 0, none⟩ = false := (hb.frozen (p := ⟨w.heap.size, 0, none⟩) (by simp <;> omega)).trans (by simp [go_sem]); have r1 : w2.cell? ⟨w.heap.size, 1, none⟩ = some (.int .i64 0) := cl_kept hb (by first | (simp [go_sem]; done) | (simp [go_sem, World.cell?_alloc_past]; done)); have f1' : w2.frozen? ⟨w.heap.size, 1, none⟩ = false := (hb.frozen (p := ⟨w.heap.size, 1, none⟩) (by simp <;> omega)).trans (by simp [go_sem]); have r2 : w2.cell? ⟨w.heap.size, 2, none⟩ = some (.int .i64 0) := cl_kept hb (by first | (simp [go_sem]; done) | (simp [go_sem, World.cell?_alloc_past]; done)); have f2' : w2.frozen? ⟨w.heap.size, 2, none⟩ = false := (hb.frozen (p := ⟨w.heap.size, 2, none⟩) (by simp <;> omega)).trans (by simp [go_sem]); have zz0 : w.heap.size < w2.heap.size := World.block_lt_of_cell? (w := w2) (a := ⟨w.heap.size, 0, none⟩) r0; have zz1 : w.heap.size < w2.heap.size + 1 := (by omega); have zz2 : w.heap.size < w2.heap.size + 1 + 1 := (by omega); have zz3 : w.heap.size < w2.heap.size + 1 + 1 + 1 := (by omega); have zz4 : w.heap.size < w2.heap.size + 1 + 1 + 1 + 1 := (by omega); have zz5 : w.heap.size < w2.heap.size + 1 + 1 + 1 + 1 + 1 := (by omega); have HB : Hid (Below w.heap.size w w2) := bl_via (bl_alloc (bl_refl _)) hb; clear hb) | (go_at_call 88; refine (mayTri_any _ _ _ _).mono ?_; rintro r w3 ⟨rfl, o1, rfl⟩))
  refine bodyPost_ret (v := .tuple #[.agg #[.int .i64 0, .int .i64 0, .int .i64 0], .int .i64 2]) ?_ rfl ⟨rfl, ?_⟩
  · first | (simp [results, Tryz.results89, go_sem, *]; done) | (simp [results, Tryz.results89, go_sem, World.cell?_alloc_past, *]; done)
  · with_reducible repeat' (first | exact HB.out | refine bl_set ?_ ?_ | refine bl_alloc ?_ | refine bl_drew ?_)
    all_goals (first | (simp; done) | (simp; omega))

set_option maxHeartbeats 800000 in
theorem Move_no (a b c d e f x y k X Y K : Int) (w : World) (h1 : mapB a b c d e f = true) (h2 : triB x y k = true) (hX : dot a b (2 * x + 1) (2 * y + 1) + e = 2 * X + 1) (hY : dot c d (2 * x + 1) (2 * y + 1) + f = 2 * Y + 1) (hK : 0 ≤ K ∧ K ≤ 3) (hKx : dot a b (outX k) (outY k) = outX K) (hKy : dot c d (outX k) (outY k) = outY K) (hm : triB X Y K = false) (hs : Steps w) :
    Calls Tryz.prog 34 #[.agg #[.int .i64 a, .int .i64 b, .int .i64 c, .int .i64 d, .int .i64 e, .int .i64 f], .agg #[.int .i64 x, .int .i64 y, .int .i64 k]] w fun r w' => r = .returned (.tuple #[.agg #[.int .i64 0, .int .i64 0, .int .i64 0], .int .i64 2]) ∧ Below w.heap.size w w' := by
  have hmf := make_func
  have HC : Hid (∀ (pa pt : Nat) (W : World), Below w.heap.size w W → Mp W pa a b c d e f → Tr W pt x y k → Calls Tryz.prog 89 #[.pointer (some ⟨pa, 0, none⟩), .pointer (some ⟨pt, 0, none⟩)] W fun r w' => r = .returned (.tuple #[.agg #[.int .i64 0, .int .i64 0, .int .i64 0], .int .i64 2]) ∧ Below W.heap.size W w') := fun pa pt W hW hp ht => move1_no a b c d e f x y k X Y K pa pt W h1 h2 hX hY hK hKx hKy hm (hs.kept hW) hp ht
  clear hX hY hK hKx hKy hm hs
  go_enter Tryz.func34, Tryz.ntmps34
  go_wp2_with (first | (go_at_call 87; refine (mayMap_any _ _ _ _ _ _ _).mono ?_; rintro r w2 ⟨rfl, o1, rfl⟩) | (go_at_call 88; refine (mayTri_any _ _ _ _).mono ?_; rintro r w3 ⟨rfl, o2, rfl⟩) | (go_at_call 86; refine (answerTri_59_2 _ _ _ (fun W hW => HC.out _ _ W (bl_via (bl_alloc (bl_alloc (bl_alloc (bl_alloc (bl_alloc (bl_refl _)))))) hW) (Mp.kept (by simp [Mp, go_sem]) hW) (Tr.kept (by simp [Tr, go_sem]) hW))).mono ?_; rintro r w2 ⟨rfl, hb⟩; have r0 : w2.cell? ⟨w.heap.size + 1 + 1, 0, none⟩ = some (.int .i64 0) := cl_kept hb (by first | (simp [go_sem]; done) | (simp [go_sem, World.cell?_alloc_past]; done)); have f0' : w2.frozen? ⟨w.heap.size + 1 + 1, 0, none⟩ = false := (hb.frozen (p := ⟨w.heap.size + 1 + 1, 0, none⟩) (by simp <;> omega)).trans (by simp [go_sem]); have r1 : w2.cell? ⟨w.heap.size + 1 + 1, 1, none⟩ = some (.int .i64 0) := cl_kept hb (by first | (simp [go_sem]; done) | (simp [go_sem, World.cell?_alloc_past]; done)); have f1' : w2.frozen? ⟨w.heap.size + 1 + 1, 1, none⟩ = false := (hb.frozen (p := ⟨w.heap.size + 1 + 1, 1, none⟩) (by simp <;> omega)).trans (by simp [go_sem]); have r2 : w2.cell? ⟨w.heap.size + 1 + 1, 2, none⟩ = some (.int .i64 0) := cl_kept hb (by first | (simp [go_sem]; done) | (simp [go_sem, World.cell?_alloc_past]; done)); have f2' : w2.frozen? ⟨w.heap.size + 1 + 1, 2, none⟩ = false := (hb.frozen (p := ⟨w.heap.size + 1 + 1, 2, none⟩) (by simp <;> omega)).trans (by simp [go_sem]); have zz0 : w.heap.size + 1 + 1 < w2.heap.size := World.block_lt_of_cell? (w := w2) (a := ⟨w.heap.size + 1 + 1, 0, none⟩) r0; have zz1 : w.heap.size + 1 + 1 < w2.heap.size + 1 := (by omega); have zz2 : w.heap.size + 1 + 1 < w2.heap.size + 1 + 1 := (by omega); have zz3 : w.heap.size + 1 + 1 < w2.heap.size + 1 + 1 + 1 := (by omega); have zz4 : w.heap.size + 1 + 1 < w2.heap.size + 1 + 1 + 1 + 1 := (by omega); have zz5 : w.heap.size + 1 + 1 < w2.heap.size + 1 + 1 + 1 + 1 + 1 := (by omega); have HB : Hid (Below w.heap.size w w2) := bl_via (bl_alloc (bl_alloc (bl_alloc (bl_alloc (bl_alloc (bl_refl _)))))) hb; clear hb))
  refine bodyPost_ret (v := .tuple #[.agg #[.int .i64 0, .int .i64 0, .int .i64 0], .int .i64 2]) ?_ rfl ⟨rfl, ?_⟩
  · first | (simp [results, Tryz.results34, go_sem, *]; done) | (simp [results, Tryz.results34, go_sem, World.cell?_alloc_past, *]; done)
  · with_reducible repeat' (first | exact HB.out | refine bl_set ?_ ?_ | refine bl_alloc ?_ | refine bl_drew ?_)
    all_goals (first | (simp; done) | (simp; omega))

set_option maxHeartbeats 800000 in
theorem Move_out (a b c d e f x y k : Int) (w : World) (h : mapB a b c d e f = false ∨ triB x y k = false) :
    Calls Tryz.prog 34 #[.agg #[.int .i64 a, .int .i64 b, .int .i64 c, .int .i64 d, .int .i64 e, .int .i64 f], .agg #[.int .i64 x, .int .i64 y, .int .i64 k]] w fun r w' => r = .returned (.tuple #[.agg #[.int .i64 0, .int .i64 0, .int .i64 0], .int .i64 3]) ∧ Below w.heap.size w w' := by
  have hmf := make_func
  by_cases h1 : mapB a b c d e f = true
  · have h2 : triB x y k = false := by rcases h with h | h; · rw [h] at h1; cases h1
                                       · exact h
    clear h
    go_enter Tryz.func34, Tryz.ntmps34
    go_wp2_with (first | (go_at_call 87; refine (mayMap_any _ _ _ _ _ _ _).mono ?_; rintro r w2 ⟨rfl, o1, rfl⟩) | (go_at_call 88; refine (mayTri_any _ _ _ _).mono ?_; rintro r w3 ⟨rfl, o2, rfl⟩) | (go_at_call 86; refine (answerTri_no _ _).mono ?_; rintro r w2 ⟨rfl, o2, o3, rfl⟩))
    refine bodyPost_ret (v := .tuple #[.agg #[.int .i64 0, .int .i64 0, .int .i64 0], .int .i64 3]) (by simp [results, Tryz.results34, go_sem, World.cell?_alloc_past]) rfl ⟨rfl, ?_⟩
    with_reducible repeat (first | refine bl_alloc ?_ | exact bl_refl _)
  · have h2 : mapB a b c d e f = false := by simpa using h1
    clear h h1
    go_enter Tryz.func34, Tryz.ntmps34
    go_wp2_with (first | (go_at_call 87; refine (mayMap_any _ _ _ _ _ _ _).mono ?_; rintro r w2 ⟨rfl, o1, rfl⟩) | (go_at_call 88; refine (mayTri_any _ _ _ _).mono ?_; rintro r w3 ⟨rfl, o2, rfl⟩) | (go_at_call 86; refine (answerTri_no _ _).mono ?_; rintro r w2 ⟨rfl, o2, o3, rfl⟩))
    refine bodyPost_ret (v := .tuple #[.agg #[.int .i64 0, .int .i64 0, .int .i64 0], .int .i64 3]) (by simp [results, Tryz.results34, go_sem, World.cell?_alloc_past]) rfl ⟨rfl, ?_⟩
    with_reducible repeat (first | refine bl_alloc ?_ | exact bl_refl _)

end Go.Proofs.YtnpboeodhpenmaaGreatDoor
