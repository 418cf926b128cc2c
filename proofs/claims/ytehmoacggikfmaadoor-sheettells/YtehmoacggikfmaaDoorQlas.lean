/- The reference's edges of a triangle, wherever it lies; has it an edge? -/
import Derived.Test.YtehmoacggikfmaaDoorQlap
import Derived.Test.YtehmoacggikfmaaDoorQlar
namespace Go.Proofs.YtehmoacggikfmaaDoor
open Go.RowKit
attribute [local go_sem ↓] Go.wp_at_zero Go.wp_at_succ

/-- Twelve numbers in a row of memory. -/
def Twl (w : World) (g : Nat) (v0 v1 v2 v3 v4 v5 v6 v7 v8 v9 v10 v11 : Int) : Prop :=
  w.cell? ⟨g, 0, none⟩ = some (.int .i64 v0) ∧ w.cell? ⟨g, 1, none⟩ = some (.int .i64 v1) ∧ w.cell? ⟨g, 2, none⟩ = some (.int .i64 v2) ∧ w.cell? ⟨g, 3, none⟩ = some (.int .i64 v3) ∧ w.cell? ⟨g, 4, none⟩ = some (.int .i64 v4) ∧ w.cell? ⟨g, 5, none⟩ = some (.int .i64 v5) ∧ w.cell? ⟨g, 6, none⟩ = some (.int .i64 v6) ∧ w.cell? ⟨g, 7, none⟩ = some (.int .i64 v7) ∧ w.cell? ⟨g, 8, none⟩ = some (.int .i64 v8) ∧ w.cell? ⟨g, 9, none⟩ = some (.int .i64 v9) ∧ w.cell? ⟨g, 10, none⟩ = some (.int .i64 v10) ∧ w.cell? ⟨g, 11, none⟩ = some (.int .i64 v11)
theorem Twl.lt {w : World} {g : Nat} {v0 v1 v2 v3 v4 v5 v6 v7 v8 v9 v10 v11 : Int} (h : Twl w g v0 v1 v2 v3 v4 v5 v6 v7 v8 v9 v10 v11) : g < w.heap.size := World.block_lt_of_cell? _ _ h.1
theorem Twl.kept {w wx : World} {g : Nat} {v0 v1 v2 v3 v4 v5 v6 v7 v8 v9 v10 v11 : Int} (h : Twl w g v0 v1 v2 v3 v4 v5 v6 v7 v8 v9 v10 v11) (hb : Below w.heap.size w wx) : Twl wx g v0 v1 v2 v3 v4 v5 v6 v7 v8 v9 v10 v11 := by
  obtain ⟨h0, h1, h2, h3, h4, h5, h6, h7, h8, h9, h10, h11⟩ := h
  exact ⟨cl_kept hb h0, cl_kept hb h1, cl_kept hb h2, cl_kept hb h3, cl_kept hb h4, cl_kept hb h5, cl_kept hb h6, cl_kept hb h7, cl_kept hb h8, cl_kept hb h9, cl_kept hb h10, cl_kept hb h11⟩

theorem cornersOfW_any (x y k : Int) (w : World) (b1 : -4000000 ≤ x) (b2 : x ≤ 4000000) (b3 : -4000000 ≤ y) (b4 : y ≤ 4000000) (k0 : 0 ≤ k) (k3 : k ≤ 3) :
    Calls Tryd.prog 55 #[.agg #[.int .i64 x, .int .i64 y, .int .i64 k]] w fun e w' => ∃ g, e = .returned (.slice (some ⟨g, 0, none⟩) 3 3) ∧ w.heap.size ≤ g ∧ Mp w' g (2 * x + 1) (2 * y + 1) (c1x x k) (c1y y k) (c2x x k) (c2y y k) ∧ Below w.heap.size w w' := by
  have hk : k = 0 ∨ k = 1 ∨ k = 2 ∨ k = 3 := by omega
  rcases hk with rfl | rfl | rfl | rfl
  · have e1 : c1x x 0 = 2 * x := by simp [c1x, stX] <;> omega
    have e2 : c1y y 0 = 2 * y := by simp [c1y, stY] <;> omega
    have e3 : c2x x 0 = 2 * x + 2 := by simp [c2x, stX] <;> omega
    have e4 : c2y y 0 = 2 * y := by simp [c2y, stY] <;> omega
    rw [e1, e2, e3, e4]
    exact cornersOfW_0 x y w b1 b2 b3 b4
  · have e1 : c1x x 1 = 2 * x + 2 := by simp [c1x, stX] <;> omega
    have e2 : c1y y 1 = 2 * y := by simp [c1y, stY] <;> omega
    have e3 : c2x x 1 = 2 * x + 2 := by simp [c2x, stX] <;> omega
    have e4 : c2y y 1 = 2 * y + 2 := by simp [c2y, stY] <;> omega
    rw [e1, e2, e3, e4]
    exact cornersOfW_1 x y w b1 b2 b3 b4
  · have e1 : c1x x 2 = 2 * x + 2 := by simp [c1x, stX] <;> omega
    have e2 : c1y y 2 = 2 * y + 2 := by simp [c1y, stY] <;> omega
    have e3 : c2x x 2 = 2 * x := by simp [c2x, stX] <;> omega
    have e4 : c2y y 2 = 2 * y + 2 := by simp [c2y, stY] <;> omega
    rw [e1, e2, e3, e4]
    exact cornersOfW_2 x y w b1 b2 b3 b4
  · have e1 : c1x x 3 = 2 * x := by simp [c1x, stX] <;> omega
    have e2 : c1y y 3 = 2 * y + 2 := by simp [c1y, stY] <;> omega
    have e3 : c2x x 3 = 2 * x := by simp [c2x, stX] <;> omega
    have e4 : c2y y 3 = 2 * y := by simp [c2y, stY] <;> omega
    rw [e1, e2, e3, e4]
    exact cornersOfW_3 x y w b1 b2 b3 b4

set_option maxRecDepth 100000 in
set_option maxHeartbeats 3200000 in
theorem edgesOf_any (x y k : Int) (w : World) (b1 : -4000000 ≤ x) (b2 : x ≤ 4000000) (b3 : -4000000 ≤ y) (b4 : y ≤ 4000000) (k0 : 0 ≤ k) (k3 : k ≤ 3) :
    Calls Tryd.prog 43 #[.agg #[.int .i64 x, .int .i64 y, .int .i64 k]] w fun e w' => ∃ g, e = .returned (.slice (some ⟨g, 0, none⟩) 3 3) ∧ w.heap.size ≤ g ∧ Twl w' g (ue0 x y k) (ue1 x y k) (ue2 x y k) (ue3 x y k) (ue4 x y k) (ue5 x y k) (ue6 x y k) (ue7 x y k) (ue8 x y k) (ue9 x y k) (ue10 x y k) (ue11 x y k) ∧ Below w.heap.size w w' := by
  have C14 : Hid (∀ W : World, Calls Tryd.prog 55 #[.agg #[.int .i64 x, .int .i64 y, .int .i64 k]] W fun e w' => ∃ g, e = .returned (.slice (some ⟨g, 0, none⟩) 3 3) ∧ W.heap.size ≤ g ∧ Mp w' g (2 * x + 1) (2 * y + 1) (c1x x k) (c1y y k) (c2x x k) (c2y y k) ∧ Below W.heap.size W w') := fun W => cornersOfW_any x y k W b1 b2 b3 b4 k0 k3
  clear b1 b2 b3 b4 k0 k3
  go_enter Tryd.func43, Tryd.ntmps43
  go_wp2_with (go_at_call 55; refine (C14.out _).mono ?_; rintro r w1 ⟨g, rfl, hg, hM, hb⟩; have HB : Hid (w.heap.size ≤ w1.heap.size ∧ Below w.heap.size w w1) := ⟨(bl_via (bl_alloc (bl_refl _)) hb).size, bl_via (bl_alloc (bl_refl _)) hb⟩; clear hb hg; have zg := hM.lt; obtain ⟨m0, m1, m2, m3, m4, m5⟩ := hM)
  go_region_held3 (fun w' => w'.cell? ⟨g, 0, none⟩ = some (.int .i64 (2 * x + 1)) ∧ w'.cell? ⟨g, 1, none⟩ = some (.int .i64 (2 * y + 1)) ∧ w'.cell? ⟨g, 2, none⟩ = some (.int .i64 (c1x x k)) ∧ w'.cell? ⟨g, 3, none⟩ = some (.int .i64 (c1y y k)) ∧ w'.cell? ⟨g, 4, none⟩ = some (.int .i64 (c2x x k)) ∧ w'.cell? ⟨g, 5, none⟩ = some (.int .i64 (c2y y k)))
    ((refine ⟨?_, ?_, ?_, ?_, ?_, ?_⟩ <;> (with_reducible (repeat (first | assumption | refine al_old ?_ | refine dr_old ?_)))))
    (first | (go_at_call 56; refine (edgeOf_num _ _ _ _ _).mono ?_; rintro r w2 ⟨rfl, o3, o4, o5, o6, o7, rfl⟩))
  all_goals
    go_wp2
    go_ret
    refine ⟨_, rfl, ?_, ?_, ?_⟩
    · have := HB.out.1
      simp
      try omega
    · simp [Twl, go_sem, ue0, ue1, ue2, ue3, ue4, ue5, ue6, ue7, ue8, ue9, ue10, ue11]
    · with_reducible repeat' (first | exact HB.out.2 | refine bl_alloc ?_ | refine bl_drew ?_)
end Go.Proofs.YtehmoacggikfmaaDoor
