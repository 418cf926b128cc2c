/- AxiomPoints: a walk (ok, no). -/
import Derived.Test.YtohnppjbmpaomaaEqst
import Derived.Test.YtohnppjbmpaomaaUprt
namespace Go.Proofs.Ytohnppjbmpaomaa
open Go.RowKit

set_option maxRecDepth 100000 in
set_option maxHeartbeats 6400000 in
theorem points_ok_no (x y X Y a b c A1 B1 C1 A2 B2 C2 m : Int) (w : World)
    (C7 : Hid (∀ W : World, Calls Try.prog 7 #[.agg #[.int .i64 x, .int .i64 y], .agg #[.int .i64 X, .int .i64 Y]] W fun e w' => e = .returned (.tuple #[.agg #[.int .i64 A1, .int .i64 B1, .int .i64 C1], .int .i64 0]) ∧ Below W.heap.size W w'))
    (C8 : Hid (∀ W : World, Calls Try.prog 8 #[.agg #[.int .i64 x, .int .i64 y], .agg #[.int .i64 X, .int .i64 Y]] W fun e w' => e = .returned (.tuple #[.agg #[.int .i64 A2, .int .i64 B2, .int .i64 C2], .int .i64 0]) ∧ Below W.heap.size W w'))
    (C9 : Hid (∀ W : World, Calls Try.prog 9 #[.agg #[.int .i64 a, .int .i64 b, .int .i64 c], .agg #[.int .i64 x, .int .i64 y]] W fun e w' => e = .returned (.tuple #[.agg #[.int .i64 0, .int .i64 0, .int .i64 0], .int .i64 m]) ∧ Below W.heap.size W w'))
    (CF : Hid (∀ (g : Nat) (W : World), (W.cell? ⟨g, 0, none⟩ = some (.int .i64 x) ∧ W.cell? ⟨g, 1, none⟩ = some (.int .i64 y) ∧ W.cell? ⟨g, 2, none⟩ = some (.int .i64 X) ∧ W.cell? ⟨g, 3, none⟩ = some (.int .i64 Y)) → Calls Try.prog 10 #[.slice (some ⟨g, 0, none⟩) 2 2, .slice none 0 0] W fun e w' => e = .returned (.int .i64 0) ∧ Below W.heap.size W w'))
    (CG : Hid (∀ (g h : Nat) (W : World), (W.cell? ⟨g, 0, none⟩ = some (.int .i64 x) ∧ W.cell? ⟨g, 1, none⟩ = some (.int .i64 y)) → (W.cell? ⟨h, 0, none⟩ = some (.int .i64 a) ∧ W.cell? ⟨h, 1, none⟩ = some (.int .i64 b) ∧ W.cell? ⟨h, 2, none⟩ = some (.int .i64 c)) → Calls Try.prog 10 #[.slice (some ⟨g, 0, none⟩) 1 1, .slice (some ⟨h, 0, none⟩) 1 1] W fun e w' => e = .returned (.int .i64 m) ∧ Below W.heap.size W w'))
    (C11 : Hid (∀ W : World, Calls Try.prog 11 #[.agg #[.int .i64 x, .int .i64 y], .agg #[.int .i64 X, .int .i64 Y]] W fun e w' => e = .returned (.agg #[.int .i64 A1, .int .i64 B1, .int .i64 C1]) ∧ Below W.heap.size W w'))
    (C12 : Hid (∀ W : World, Calls Try.prog 12 #[.agg #[.int .i64 x, .int .i64 y], .agg #[.int .i64 X, .int .i64 Y]] W fun e w' => e = .returned (.agg #[.int .i64 A2, .int .i64 B2, .int .i64 C2]) ∧ Below W.heap.size W w'))
    (hs : same2 x y X Y = false)
    (hm : m ≠ 0) :
    Calls Try.prog 3 #[.agg #[.int .i64 x, .int .i64 y], .agg #[.int .i64 X, .int .i64 Y], .agg #[.int .i64 a, .int .i64 b, .int .i64 c]] w fun e w' => e = .returned (.bool true) ∧ Below w.heap.size w w' := by
  have E := eql23 x y X Y
  rw [hs] at E
  clear hs
  have N1 := neq25 A1 B1 C1 A1 B1 C1
  rw [same3_self] at N1
  have N2 := neq25 A2 B2 C2 A2 B2 C2
  rw [same3_self] at N2
  have N3 := eql25 0 0 0 0 0 0
  rw [same3_self] at N3
  have q : (m != 0) = true := by simpa using hm
  have q2 : (m == m) = true := by simp
  go_enter Try.func3, Try.ntmps3
  go_wp2_with (first | (go_at_call 7; with_reducible refine (C7.out _).mono ?_; rintro e w1 ⟨rfl, hb1⟩; have p0 : w1.cell? ⟨w.heap.size, 0, none⟩ = some (.int .i64 x) := cl_kept hb1 (by simp [go_sem]); have p1 : w1.cell? ⟨w.heap.size, 1, none⟩ = some (.int .i64 y) := cl_kept hb1 (by simp [go_sem]); have q0 : w1.cell? ⟨w.heap.size + 1, 0, none⟩ = some (.int .i64 X) := cl_kept hb1 (by simp [go_sem]); have q1 : w1.cell? ⟨w.heap.size + 1, 1, none⟩ = some (.int .i64 Y) := cl_kept hb1 (by simp [go_sem]); have l0 : w1.cell? ⟨w.heap.size + 1 + 1, 0, none⟩ = some (.int .i64 a) := cl_kept hb1 (by simp [go_sem]); have l1 : w1.cell? ⟨w.heap.size + 1 + 1, 1, none⟩ = some (.int .i64 b) := cl_kept hb1 (by simp [go_sem]); have l2 : w1.cell? ⟨w.heap.size + 1 + 1, 2, none⟩ = some (.int .i64 c) := cl_kept hb1 (by simp [go_sem]); have gp := World.block_lt_of_cell? _ _ p0; have gq := World.block_lt_of_cell? _ _ q0; have gl := World.block_lt_of_cell? _ _ l0) | (go_at_call 8; with_reducible refine (C8.out _).mono ?_; rintro e w2 ⟨rfl, hb2⟩; replace p0 := cl_kept hb2 (cl_kept (bl_alloc (bl_refl _)) p0); replace p1 := cl_kept hb2 (cl_kept (bl_alloc (bl_refl _)) p1); replace q0 := cl_kept hb2 (cl_kept (bl_alloc (bl_refl _)) q0); replace q1 := cl_kept hb2 (cl_kept (bl_alloc (bl_refl _)) q1); replace l0 := cl_kept hb2 (cl_kept (bl_alloc (bl_refl _)) l0); replace l1 := cl_kept hb2 (cl_kept (bl_alloc (bl_refl _)) l1); replace l2 := cl_kept hb2 (cl_kept (bl_alloc (bl_refl _)) l2); have a0 : w2.cell? ⟨w1.heap.size, 0, none⟩ = some (.int .i64 A1) := cl_kept hb2 (by simp [go_sem]); have a1 : w2.cell? ⟨w1.heap.size, 1, none⟩ = some (.int .i64 B1) := cl_kept hb2 (by simp [go_sem]); have a2 : w2.cell? ⟨w1.heap.size, 2, none⟩ = some (.int .i64 C1) := cl_kept hb2 (by simp [go_sem]); have gp := World.block_lt_of_cell? _ _ p0; have gq := World.block_lt_of_cell? _ _ q0; have gl := World.block_lt_of_cell? _ _ l0; have ga := World.block_lt_of_cell? _ _ a0) | (go_at_call 9; with_reducible refine (C9.out _).mono ?_; rintro e w3 ⟨rfl, hb3⟩; replace p0 := cl_kept hb3 (cl_kept (bl_alloc (bl_refl _)) p0); replace p1 := cl_kept hb3 (cl_kept (bl_alloc (bl_refl _)) p1); replace q0 := cl_kept hb3 (cl_kept (bl_alloc (bl_refl _)) q0); replace q1 := cl_kept hb3 (cl_kept (bl_alloc (bl_refl _)) q1); replace l0 := cl_kept hb3 (cl_kept (bl_alloc (bl_refl _)) l0); replace l1 := cl_kept hb3 (cl_kept (bl_alloc (bl_refl _)) l1); replace l2 := cl_kept hb3 (cl_kept (bl_alloc (bl_refl _)) l2); replace a0 := cl_kept hb3 (cl_kept (bl_alloc (bl_refl _)) a0); replace a1 := cl_kept hb3 (cl_kept (bl_alloc (bl_refl _)) a1); replace a2 := cl_kept hb3 (cl_kept (bl_alloc (bl_refl _)) a2); have b0 : w3.cell? ⟨w2.heap.size, 0, none⟩ = some (.int .i64 A2) := cl_kept hb3 (by simp [go_sem]); have b1 : w3.cell? ⟨w2.heap.size, 1, none⟩ = some (.int .i64 B2) := cl_kept hb3 (by simp [go_sem]); have b2 : w3.cell? ⟨w2.heap.size, 2, none⟩ = some (.int .i64 C2) := cl_kept hb3 (by simp [go_sem]); have gp := World.block_lt_of_cell? _ _ p0; have gq := World.block_lt_of_cell? _ _ q0; have gl := World.block_lt_of_cell? _ _ l0; have ga := World.block_lt_of_cell? _ _ a0; have gb := World.block_lt_of_cell? _ _ b0) | (go_at_call 10; refine Calls.mono (CF.out _ _ ⟨?_, ?_, ?_, ?_⟩) ?_; (focus (simp [go_sem]; done)); (focus (simp [go_sem]; done)); (focus (simp [go_sem]; done)); (focus (simp [go_sem]; done)); rintro e w4 ⟨rfl, hb4⟩; replace p0 := cl_kept hb4 (cl_kept (bl_alloc (bl_alloc (bl_alloc (bl_refl _)))) p0); replace p1 := cl_kept hb4 (cl_kept (bl_alloc (bl_alloc (bl_alloc (bl_refl _)))) p1); replace q0 := cl_kept hb4 (cl_kept (bl_alloc (bl_alloc (bl_alloc (bl_refl _)))) q0); replace q1 := cl_kept hb4 (cl_kept (bl_alloc (bl_alloc (bl_alloc (bl_refl _)))) q1); replace l0 := cl_kept hb4 (cl_kept (bl_alloc (bl_alloc (bl_alloc (bl_refl _)))) l0); replace l1 := cl_kept hb4 (cl_kept (bl_alloc (bl_alloc (bl_alloc (bl_refl _)))) l1); replace l2 := cl_kept hb4 (cl_kept (bl_alloc (bl_alloc (bl_alloc (bl_refl _)))) l2); replace a0 := cl_kept hb4 (cl_kept (bl_alloc (bl_alloc (bl_alloc (bl_refl _)))) a0); replace a1 := cl_kept hb4 (cl_kept (bl_alloc (bl_alloc (bl_alloc (bl_refl _)))) a1); replace a2 := cl_kept hb4 (cl_kept (bl_alloc (bl_alloc (bl_alloc (bl_refl _)))) a2); replace b0 := cl_kept hb4 (cl_kept (bl_alloc (bl_alloc (bl_alloc (bl_refl _)))) b0); replace b1 := cl_kept hb4 (cl_kept (bl_alloc (bl_alloc (bl_alloc (bl_refl _)))) b1); replace b2 := cl_kept hb4 (cl_kept (bl_alloc (bl_alloc (bl_alloc (bl_refl _)))) b2); have c0 : w4.cell? ⟨w3.heap.size, 0, none⟩ = some (.int .i64 0) := cl_kept hb4 (by simp [go_sem]); have c1 : w4.cell? ⟨w3.heap.size, 1, none⟩ = some (.int .i64 0) := cl_kept hb4 (by simp [go_sem]); have c2 : w4.cell? ⟨w3.heap.size, 2, none⟩ = some (.int .i64 0) := cl_kept hb4 (by simp [go_sem]); have z0 : w4.cell? ⟨w3.heap.size + 1, 0, none⟩ = some (.int .i64 0) := cl_kept hb4 (by simp [go_sem]); have z1 : w4.cell? ⟨w3.heap.size + 1, 1, none⟩ = some (.int .i64 0) := cl_kept hb4 (by simp [go_sem]); have z2 : w4.cell? ⟨w3.heap.size + 1, 2, none⟩ = some (.int .i64 0) := cl_kept hb4 (by simp [go_sem]); have HB : Hid (Below w.heap.size w w4) := bl_via (bl_via (bl_via (bl_via (bl_alloc (bl_alloc (bl_alloc (bl_refl _)))) hb1) (bl_via (bl_alloc (bl_refl _)) hb2)) (bl_via (bl_alloc (bl_refl _)) hb3)) (bl_via (bl_alloc (bl_alloc (bl_alloc (bl_refl _)))) hb4); clear hb1 hb2 hb3 hb4; have gp := World.block_lt_of_cell? _ _ p0; have gq := World.block_lt_of_cell? _ _ q0; have gl := World.block_lt_of_cell? _ _ l0; have ga := World.block_lt_of_cell? _ _ a0; have gb := World.block_lt_of_cell? _ _ b0; have gc := World.block_lt_of_cell? _ _ c0; have gz := World.block_lt_of_cell? _ _ z0) | fail)
  have kc := Kin.cells w4
  have kn : Nonempty (Kin w4) := ⟨⟨w4, bl_refl _⟩⟩
  refine wp_region_kin (by kernel_rfl) (by kernel_rfl) ?_
  repeat (go_big_quiet_step (first | (go_at_call 11; with_reducible exact kin_of (C11.out _)) | (go_at_call 12; with_reducible exact kin_of (C12.out _)) | fail))
  refine wpQuiet_nil ?_
  intro wq hw'
  obtain ⟨nq, hw''⟩ := hw'
  have hq : Below w4.heap.size w4 wq := hw'' ▸ nq.h
  clear hw'' nq kc kn
  replace p0 := cl_kept hq p0
  replace p1 := cl_kept hq p1
  replace q0 := cl_kept hq q0
  replace q1 := cl_kept hq q1
  replace l0 := cl_kept hq l0
  replace l1 := cl_kept hq l1
  replace l2 := cl_kept hq l2
  replace a0 := cl_kept hq a0
  replace a1 := cl_kept hq a1
  replace a2 := cl_kept hq a2
  replace b0 := cl_kept hq b0
  replace b1 := cl_kept hq b1
  replace b2 := cl_kept hq b2
  replace c0 := cl_kept hq c0
  replace c1 := cl_kept hq c1
  replace c2 := cl_kept hq c2
  replace z0 := cl_kept hq z0
  replace z1 := cl_kept hq z1
  replace z2 := cl_kept hq z2
  replace HB : Hid (Below w.heap.size w wq) := bl_via HB.out hq
  clear hq
  have gp := World.block_lt_of_cell? _ _ p0
  have gq := World.block_lt_of_cell? _ _ q0
  have gl := World.block_lt_of_cell? _ _ l0
  have ga := World.block_lt_of_cell? _ _ a0
  have gb := World.block_lt_of_cell? _ _ b0
  have gc := World.block_lt_of_cell? _ _ c0
  have gz := World.block_lt_of_cell? _ _ z0
  go_wp2_with (go_at_call 10; refine Calls.mono (CG.out _ _ _ ⟨?_, ?_⟩ ⟨?_, ?_, ?_⟩) ?_; (focus (simp [go_sem]; done)); (focus (simp [go_sem]; done)); (focus (simp [go_sem]; done)); (focus (simp [go_sem]; done)); (focus (simp [go_sem]; done)); rintro e w5 ⟨rfl, hb5⟩; replace p0 := cl_kept hb5 (cl_kept (bl_alloc (bl_alloc (bl_refl _))) p0); replace p1 := cl_kept hb5 (cl_kept (bl_alloc (bl_alloc (bl_refl _))) p1); replace l0 := cl_kept hb5 (cl_kept (bl_alloc (bl_alloc (bl_refl _))) l0); replace l1 := cl_kept hb5 (cl_kept (bl_alloc (bl_alloc (bl_refl _))) l1); replace l2 := cl_kept hb5 (cl_kept (bl_alloc (bl_alloc (bl_refl _))) l2); replace c0 := cl_kept hb5 (cl_kept (bl_alloc (bl_alloc (bl_refl _))) c0); replace c1 := cl_kept hb5 (cl_kept (bl_alloc (bl_alloc (bl_refl _))) c1); replace c2 := cl_kept hb5 (cl_kept (bl_alloc (bl_alloc (bl_refl _))) c2); replace z0 := cl_kept hb5 (cl_kept (bl_alloc (bl_alloc (bl_refl _))) z0); replace z1 := cl_kept hb5 (cl_kept (bl_alloc (bl_alloc (bl_refl _))) z1); replace z2 := cl_kept hb5 (cl_kept (bl_alloc (bl_alloc (bl_refl _))) z2); replace HB : Hid (Below w.heap.size w w5) := bl_via HB.out (bl_via (bl_alloc (bl_alloc (bl_refl _))) hb5); clear hb5; have gp := World.block_lt_of_cell? _ _ p0; have gl := World.block_lt_of_cell? _ _ l0; have gc := World.block_lt_of_cell? _ _ c0; have gz := World.block_lt_of_cell? _ _ z0)
  go_ret
  exact ⟨rfl, HB.out⟩
end Go.Proofs.Ytohnppjbmpaomaa
