/- Has a triangle an edge? -/
import Derived.Test.YtehmoacggikfmaaDoorQlas
import Derived.Test.YtehmoacggikfmaaDoorQlat
namespace Go.Proofs.YtehmoacggikfmaaDoor
open Go.RowKit

set_option maxRecDepth 100000 in
set_option maxHeartbeats 1600000 in
theorem hasEdge_a (x y k p q r s : Int) (w : World) (b1 : -4000000 ≤ x) (b2 : x ≤ 4000000) (b3 : -4000000 ≤ y) (b4 : y ≤ 4000000) (k0 : 0 ≤ k) (k3 : k ≤ 3) (h0 : sameB (ue0 x y k) (ue1 x y k) (ue2 x y k) (ue3 x y k) p q r s = true) :
    Calls Tryd.prog 32 #[.agg #[.int .i64 x, .int .i64 y, .int .i64 k], .agg #[.int .i64 p, .int .i64 q, .int .i64 r, .int .i64 s]] w fun e w' => e = .returned (.bool true) ∧ Below w.heap.size w w' := by
  have C12 : Hid (∀ W : World, Calls Tryd.prog 43 #[.agg #[.int .i64 x, .int .i64 y, .int .i64 k]] W fun e w' => ∃ g, e = .returned (.slice (some ⟨g, 0, none⟩) 3 3) ∧ W.heap.size ≤ g ∧ Twl w' g (ue0 x y k) (ue1 x y k) (ue2 x y k) (ue3 x y k) (ue4 x y k) (ue5 x y k) (ue6 x y k) (ue7 x y k) (ue8 x y k) (ue9 x y k) (ue10 x y k) (ue11 x y k) ∧ Below W.heap.size W w') := fun W => edgesOf_any x y k W b1 b2 b3 b4 k0 k3
  clear b1 b2 b3 b4 k0 k3
  have he := eql27
  go_enter Tryd.func32, Tryd.ntmps32
  go_wp2_with (go_at_call 43; refine (C12.out _).mono ?_; rintro r w1 ⟨g, rfl, hg, hM, hb⟩; have c0 : w1.cell? ⟨w.heap.size + 1, 0, none⟩ = some (.int .i64 p) := cl_kept hb (by simp [go_sem]); have c1 : w1.cell? ⟨w.heap.size + 1, 1, none⟩ = some (.int .i64 q) := cl_kept hb (by simp [go_sem]); have c2 : w1.cell? ⟨w.heap.size + 1, 2, none⟩ = some (.int .i64 r) := cl_kept hb (by simp [go_sem]); have c3 : w1.cell? ⟨w.heap.size + 1, 3, none⟩ = some (.int .i64 s) := cl_kept hb (by simp [go_sem]); have HB : Hid (Below w.heap.size w w1) := bl_via (bl_alloc (bl_alloc (bl_refl _))) hb; clear hb hg; obtain ⟨m0, m1, m2, m3, m4, m5, m6, m7, m8, m9, m10, m11⟩ := hM)
  go_quiet (fail)
  go_wp2
  go_ret
  refine ⟨rfl, ?_⟩
  with_reducible repeat' (first | exact HB.out | refine bl_alloc ?_ | refine bl_drewN ?_ | refine bl_drew ?_)

set_option maxRecDepth 100000 in
set_option maxHeartbeats 1600000 in
theorem hasEdge_b (x y k p q r s : Int) (w : World) (b1 : -4000000 ≤ x) (b2 : x ≤ 4000000) (b3 : -4000000 ≤ y) (b4 : y ≤ 4000000) (k0 : 0 ≤ k) (k3 : k ≤ 3) (h0 : sameB (ue0 x y k) (ue1 x y k) (ue2 x y k) (ue3 x y k) p q r s = false) (h1 : sameB (ue4 x y k) (ue5 x y k) (ue6 x y k) (ue7 x y k) p q r s = true) :
    Calls Tryd.prog 32 #[.agg #[.int .i64 x, .int .i64 y, .int .i64 k], .agg #[.int .i64 p, .int .i64 q, .int .i64 r, .int .i64 s]] w fun e w' => e = .returned (.bool true) ∧ Below w.heap.size w w' := by
  have C12 : Hid (∀ W : World, Calls Tryd.prog 43 #[.agg #[.int .i64 x, .int .i64 y, .int .i64 k]] W fun e w' => ∃ g, e = .returned (.slice (some ⟨g, 0, none⟩) 3 3) ∧ W.heap.size ≤ g ∧ Twl w' g (ue0 x y k) (ue1 x y k) (ue2 x y k) (ue3 x y k) (ue4 x y k) (ue5 x y k) (ue6 x y k) (ue7 x y k) (ue8 x y k) (ue9 x y k) (ue10 x y k) (ue11 x y k) ∧ Below W.heap.size W w') := fun W => edgesOf_any x y k W b1 b2 b3 b4 k0 k3
  clear b1 b2 b3 b4 k0 k3
  have he := eql27
  go_enter Tryd.func32, Tryd.ntmps32
  go_wp2_with (go_at_call 43; refine (C12.out _).mono ?_; rintro r w1 ⟨g, rfl, hg, hM, hb⟩; have c0 : w1.cell? ⟨w.heap.size + 1, 0, none⟩ = some (.int .i64 p) := cl_kept hb (by simp [go_sem]); have c1 : w1.cell? ⟨w.heap.size + 1, 1, none⟩ = some (.int .i64 q) := cl_kept hb (by simp [go_sem]); have c2 : w1.cell? ⟨w.heap.size + 1, 2, none⟩ = some (.int .i64 r) := cl_kept hb (by simp [go_sem]); have c3 : w1.cell? ⟨w.heap.size + 1, 3, none⟩ = some (.int .i64 s) := cl_kept hb (by simp [go_sem]); have HB : Hid (Below w.heap.size w w1) := bl_via (bl_alloc (bl_alloc (bl_refl _))) hb; clear hb hg; obtain ⟨m0, m1, m2, m3, m4, m5, m6, m7, m8, m9, m10, m11⟩ := hM)
  go_quiet (fail)
  go_wp2
  go_ret
  refine ⟨rfl, ?_⟩
  with_reducible repeat' (first | exact HB.out | refine bl_alloc ?_ | refine bl_drewN ?_ | refine bl_drew ?_)

set_option maxRecDepth 100000 in
set_option maxHeartbeats 1600000 in
theorem hasEdge_c (x y k p q r s : Int) (w : World) (b1 : -4000000 ≤ x) (b2 : x ≤ 4000000) (b3 : -4000000 ≤ y) (b4 : y ≤ 4000000) (k0 : 0 ≤ k) (k3 : k ≤ 3) (h0 : sameB (ue0 x y k) (ue1 x y k) (ue2 x y k) (ue3 x y k) p q r s = false) (h1 : sameB (ue4 x y k) (ue5 x y k) (ue6 x y k) (ue7 x y k) p q r s = false) :
    Calls Tryd.prog 32 #[.agg #[.int .i64 x, .int .i64 y, .int .i64 k], .agg #[.int .i64 p, .int .i64 q, .int .i64 r, .int .i64 s]] w fun e w' => e = .returned (.bool (sameB (ue8 x y k) (ue9 x y k) (ue10 x y k) (ue11 x y k) p q r s)) ∧ Below w.heap.size w w' := by
  have C12 : Hid (∀ W : World, Calls Tryd.prog 43 #[.agg #[.int .i64 x, .int .i64 y, .int .i64 k]] W fun e w' => ∃ g, e = .returned (.slice (some ⟨g, 0, none⟩) 3 3) ∧ W.heap.size ≤ g ∧ Twl w' g (ue0 x y k) (ue1 x y k) (ue2 x y k) (ue3 x y k) (ue4 x y k) (ue5 x y k) (ue6 x y k) (ue7 x y k) (ue8 x y k) (ue9 x y k) (ue10 x y k) (ue11 x y k) ∧ Below W.heap.size W w') := fun W => edgesOf_any x y k W b1 b2 b3 b4 k0 k3
  clear b1 b2 b3 b4 k0 k3
  have he := eql27
  go_enter Tryd.func32, Tryd.ntmps32
  go_wp2_with (go_at_call 43; refine (C12.out _).mono ?_; rintro r w1 ⟨g, rfl, hg, hM, hb⟩; have c0 : w1.cell? ⟨w.heap.size + 1, 0, none⟩ = some (.int .i64 p) := cl_kept hb (by simp [go_sem]); have c1 : w1.cell? ⟨w.heap.size + 1, 1, none⟩ = some (.int .i64 q) := cl_kept hb (by simp [go_sem]); have c2 : w1.cell? ⟨w.heap.size + 1, 2, none⟩ = some (.int .i64 r) := cl_kept hb (by simp [go_sem]); have c3 : w1.cell? ⟨w.heap.size + 1, 3, none⟩ = some (.int .i64 s) := cl_kept hb (by simp [go_sem]); have HB : Hid (Below w.heap.size w w1) := bl_via (bl_alloc (bl_alloc (bl_refl _))) hb; clear hb hg; obtain ⟨m0, m1, m2, m3, m4, m5, m6, m7, m8, m9, m10, m11⟩ := hM)
  go_quiet (fail)
  go_wp2
  go_ret
  refine ⟨rfl, ?_⟩
  with_reducible repeat' (first | exact HB.out | refine bl_alloc ?_ | refine bl_drewN ?_ | refine bl_drew ?_)

theorem hasEdge_any (x y k p q r s : Int) (w : World) (b1 : -4000000 ≤ x) (b2 : x ≤ 4000000) (b3 : -4000000 ≤ y) (b4 : y ≤ 4000000) (k0 : 0 ≤ k) (k3 : k ≤ 3) :
    Calls Tryd.prog 32 #[.agg #[.int .i64 x, .int .i64 y, .int .i64 k], .agg #[.int .i64 p, .int .i64 q, .int .i64 r, .int .i64 s]] w fun e w' => e = .returned (.bool (hasB x y k p q r s)) ∧ Below w.heap.size w w' := by
  have E0 : e0 x y k p q r s = sameB (ue0 x y k) (ue1 x y k) (ue2 x y k) (ue3 x y k) p q r s := rfl
  have E1 : e1 x y k p q r s = sameB (ue4 x y k) (ue5 x y k) (ue6 x y k) (ue7 x y k) p q r s := rfl
  have E2 : e2 x y k p q r s = sameB (ue8 x y k) (ue9 x y k) (ue10 x y k) (ue11 x y k) p q r s := rfl
  unfold hasB
  rw [E0, E1, E2]
  cases h0 : sameB (ue0 x y k) (ue1 x y k) (ue2 x y k) (ue3 x y k) p q r s
  · cases h1 : sameB (ue4 x y k) (ue5 x y k) (ue6 x y k) (ue7 x y k) p q r s
    · exact hasEdge_c x y k p q r s w b1 b2 b3 b4 k0 k3 h0 h1
    · exact hasEdge_b x y k p q r s w b1 b2 b3 b4 k0 k3 h0 h1
  · exact hasEdge_a x y k p q r s w b1 b2 b3 b4 k0 k3 h0

end Go.Proofs.YtehmoacggikfmaaDoor
